import Derived.Test.YtpghlcdkfldlpaaGreatT51
set_option linter.unusedVariables false
set_option linter.unusedSimpArgs false
set_option maxHeartbeats 40000000
set_option maxRecDepth 100000
namespace Go.Proofs.YtpghlcdkfldlpaaGreat
open Go.RowKit
open M (OpD ue Gr um)
attribute [local go_sem] ujL umQ umR umS ujM umT umU umV ujN umW umX umY
structure AP(most:Int)(s:MSt):Prop where
 m1:most<=1000
 len:(s.st.length:Int)<=most
 last:∀f,f∈s.st->f.kind≠2->f.log<=s.log.length
 kinds:∀f,f∈s.st->f.kind=0\/f.kind=1\/f.kind=2
 logl:s.log.length<=1048576
 done:s.done=false
theorem AP.len'{most s}(h:AP most s):s.st.length<=1000:=by have:=h.m1;have:=h.len;omega
def kq(x:um)(a:Option Addr)(b:Nat):Value:=.agg #[.int .i64 x.kind,.int .i64 x.arg,.int .i64 x.to,.slice a x.sl b]
def MSt.nx(s:MSt):MSt:={ s with at_:=s.at_+1 }
theorem ActIs.from_{t K L b f il ic most w W w' e}(c:Kept (λx=>K x\/L x\/x=b) w W)(h:ActIs t K L b f il ic most W e w'):ActIs t K L b f il ic most w e w':=by
 obtain⟨j,z,st,ka,kc,la,lc,g,i,k,l,m,n,o⟩:=h;have p:=c.size;have d:∀x,New W w' x->New w w' x:=λx a=>⟨by have:=a.1;omega,a.2⟩
 exact⟨j,z,st,ka,kc,la,lc,g,i,k,l,λx a=>(m x a).imp id (d x),λx a=>(n x a).imp id (d x),yV c o⟩
theorem ActIs.below{t K L b a il ic most w W w' e}(c:Below w.heap.size w W)(h:ActIs t K L b a il ic most W e w'):ActIs t K L b a il ic most w e w':=h.from_ (Kept.of c)
theorem ActIs.over{t c:MSt}{K L:Nat->Prop}{b:Nat}{a:Option Addr}{il ic:Nat}{most:Int}{w w':World}{e:Ending}(h:ActIs t K L b a il ic most w e w')(g:t.done=true)(i:∃z st,c={ t with at_:=z,st:=st }):ActIs c K L b a il ic most w e w':=by
 obtain⟨o,n,rfl⟩:=i;obtain⟨j,z,st,ka,kc,la,lc,d,f,m,k,l⟩:=h;refine⟨j,z,st,ka,kc,la,lc,d,f,λq=>?_,k,l⟩;have q':=q;rw[g]at q';cases q'
theorem ActIs.fail{s:MSt}{z:Int}{K L:Nat->Prop}{b:Nat}{d:Option Addr}{il ic:Nat}{most:Int}{w w':World}{e:Ending}(h:ActIs (MSt.fail { s with at_:=z }) K L b d il ic most w e w'):ActIs s.fail K L b d il ic most w e w':=by
 cases c:uT s.st.reverse with
 |none =>
  have a:MSt.fail { s with at_:=z }=MSt.fin { s with at_:=z } 1:=by unfold MSt.fail;simp only[c]
  have g:s.fail=s.fin 1:=by unfold MSt.fail;rw[c]
  rw[a]at h;rw[g];exact h.over rfl ⟨s.at_,s.st,rfl⟩
 |some p =>
  obtain⟨f,r⟩:=p;have a:MSt.fail { s with at_:=z }=s.fail:=by unfold MSt.fail;simp only[c]
  rw[<-a];exact h
theorem vr{K L:Nat->Prop}{b:Nat}{s:MSt}{f:Option Addr}{il ic:Nat}{most:Int}{ka:Option Addr}{kc:Nat}{la:Option Addr}{lc:Nat}{w W:World}{t:MSt}(d:MacA K L W b s f il ic most ka kc la lc)(j:Kept (λx=>K x\/L x\/x=b) w W)(i:t.done=true)(a:∃z st,s={ t with at_:=z,st:=st,done:=s.done,code:=s.code }):ActIs t K L b f il ic most w (.returned (.int .i64 t.code)) W:=by
 obtain⟨z,st,a⟩:=a;have g:s.st=st:=by rw[a]
 have h:s.log=t.log:=by rw[a]
 refine⟨by unfold jP;rw[i];rfl,z,st,ka,kc,la,lc,K,L,(λq=>by rw[i]at q;cases q),⟨?_,?_,?_,d.lt,d.kl,d.kb,d.lb⟩,λx e=>.inl e,λx e=>.inl e,j⟩
 ·show MacC W b _ f il ic most ka st.length kc la t.log.length lc;rw[<-g,<-h];exact d.c.re (by rw[a]) (by rw[a]) (by rw[a]) (by rw[a]) (by rw[a]) (by rw[a]) (by rw[a])
 ·show OwnC K W (.slice ka st.length kc) 1 st.length (vv false st);rw[<-g];exact d.st
 show OwnC L W (.slice la t.log.length lc) 3 t.log.length (uY t.log);rw[<-h];exact d.log
theorem uiu{K L b c il ic most ka kc la lc w W t}(e:MacA K L W b t c il ic most ka kc la lc)(f:Kept (λx=>K x\/L x\/x=b) w W)(d:t.done=false):ActIs t K L b c il ic most w (.returned (.int .i64 (-1))) W :=
 ⟨by unfold jP;rw[d];rfl,t.at_,t.st,ka,kc,la,lc,K,L,λ_=>⟨rfl,rfl⟩,e,λx a=>.inl a,λx a=>.inl a,f⟩
theorem uN{P R w W}(h:Kept P w W)(k:∀x,P x->R x):Kept R w W:=⟨h.os,h.tape,h.output,h.size,λx b a=>h.block x b (λq=>a (k x q))⟩
theorem uap(s:MSt):(s.st.length=0/\∀k,s.top k=false)\/∃j f,s.st.length=j+1/\s.st[j]?=some f/\(∀k,s.top k=(f.kind==k))/\xv s.st=f.to:=by
 rcases Nat.eq_zero_or_pos s.st.length with a|a
 ·refine .inl ⟨a,λk=>?_⟩;unfold MSt.top;rw[List.eq_nil_of_length_eq_zero a];rfl
 obtain⟨j,b⟩:∃j,s.st.length=j+1:=⟨s.st.length-1,by omega⟩;obtain⟨f,d,c⟩:=ua7 b;refine .inr ⟨j,f,b,d,λk=>?_,?_⟩
 ·unfold MSt.top;rw[c]
 unfold xv;rw[c]
theorem MacA.popped{K L:Nat->Prop}{w:World}{b:Nat}{s:MSt}{g:Option Addr}{il ic:Nat}{most:Int}{ka:Option Addr}{kc:Nat}{la:Option Addr}{lc j:Nat}(h:MacA K L w b s.nx g il ic most ka kc la lc)(i:s.st.length=j+1):MacA K L (w.setCell ⟨b,4,none⟩ (.slice ka j kc)) b s.pop.nx g il ic most ka kc la lc:=by
 have f:s.pop.nx.st.length=j:=by show s.st.dropLast.length=j;rw[List.length_dropLast];omega
 have d:∀x,x≠b->(w.setCell ⟨b,4,none⟩ (.slice ka j kc)).heap[x]?=w.heap[x]?:=λx a=>Below.heap_setCell _ _ _ _ a
 refine⟨?_,?_,?_,λx a=>by rw[uh];exact h.lt x a,h.kl,h.kb,h.lb⟩
 ·rw[f];exact(h.c.set4 ka j kc).re rfl rfl rfl rfl rfl rfl rfl
 ·rw[f];have e:s.pop.nx.st=s.st.take j:=by show s.st.dropLast=_;rw[List.dropLast_eq_take,i];rfl
  rw[e,qX];have k:=kS h.st (j:=j) (by show j<=s.st.length;omega);rw[Nat.mul_one]at k;exact k.on (λx a=>d x (λe=>h.kb (e▸a)))
 exact h.log.on (λx a=>d x (λe=>h.lb (e▸a)))
theorem umF{most s}(h:AP most s):(s.pop.st.length:Int)<=most:=by
 have:=h.len;show(s.st.dropLast.length:Int)<=most;rw[List.length_dropLast];omega
theorem ug4{most s}(h:AP most s):s.pop.st.length<=1000:=by
 have:=h.len';show s.st.dropLast.length<=1000;rw[List.length_dropLast];omega
theorem umG{most s}(h:AP most s):∀f,f∈s.pop.st->f.kind≠2->f.log<=s.pop.log.length:=λf a=>h.last f (List.dropLast_subset _ a)
theorem ukO{most s}(h:AP most s):∀f,f∈s.pop.st->f.kind=0\/f.kind=1\/f.kind=2:=λf a=>h.kinds f (List.dropLast_subset _ a)
theorem uoN{s:MSt}{j:Nat}{f:FrD}{a:Bool}(d:s.st.length=j+1)(c:s.st[j]?=some f)(g:(f.kind==1)=false)(h:s.st.any (λf=>f.kind==1)=a):s.pop.st.any (λf=>f.kind==1)=a:=by
 have e:s.st=s.st.take j++[f]:=by
  rw[<-jo c,List.take_of_length_le (by omega)]
 have b:s.pop.st=s.st.take j:=by show s.st.dropLast=_;rw[List.dropLast_eq_take,d];rfl
 rw[b,<-h]
 conv=>rhs;rw[e]
 rw[List.any_append];simp[g]
theorem uoO K L b s x o p g il ic I most ka kc la lc w(d:MacA K L w b s.nx g il ic most ka kc la lc)(l:AP most s)(m:x.kind=12) :
  Calls Tryz.prog 120 #[.pointer (some ⟨b,0,none⟩),kq x o p] w (ActIs (s.act x il I most) K L b g il ic most w):=by
 have e:=ua d;have j:w.cell? ⟨b,4,none⟩=some (.slice ka s.st.length kc):=d.c.c4;have lb:=d.bl;have k:=l.len';have h:Hid (s.act x il I most=if s.st.length=0 then s.fin 0 else s.fin 4):=by
  show _=_;unfold MSt.act;simp only[m];simp
 obtain⟨n,f⟩:∃n,s.st.length=n:=⟨_,rfl⟩;have i:=ua f;rw[f]at j k;unfold kq;rw[h.out,i.out];by_cases a:n=0
 ·rw[if_pos a];subst a;go_enter Tryz.func120,Tryz.ntmps120;go_wp2;go_ret;exact vr (t:=s.fin 0) (e.later (uf w _)) (Kept.of (uf w _)) rfl ⟨_,_,rfl⟩
 rw[if_neg a];have h0':(0:Int)<(n:Int):=by omega
 go_enter Tryz.func120,Tryz.ntmps120;go_wp2;go_ret;exact vr (t:=s.fin 4) (e.later (uf w _)) (Kept.of (uf w _)) rfl ⟨_,_,rfl⟩
theorem uiv K L b s x y z d il ic I most ka kc la lc w(q:MacA K L w b s.nx d il ic most ka kc la lc)(u:AP most s)(v:x.kind=1) :
  Calls Tryz.prog 111 #[.pointer (some ⟨b,0,none⟩),kq x y z] w (ActIs (s.act x il I most) K L b d il ic most w):=by
 have i:=ua q;have f:=ua u;have m:Hid (s.act x il I most=(s.nx).push ⟨0,x.to,s.pos,s.log.length⟩ most):=by
  show _=_;unfold MSt.act;simp only[v];simp[MSt.hold,MSt.nx]
 obtain⟨A,t⟩:=nm s.nx.inNot;have j:=ua t;rw[m.out];unfold kq;go_enter Tryz.func111,Tryz.ntmps111;go_wp2_with fail;refine(ubA K L b s.nx d il ic most ka kc la lc x.to _ (i.later (uf w _)) f.len').mono ?_;rintro e W ⟨rfl,a⟩;rw[j.out];have g:=ua (i.later (ud (uf w _) a));have n:=ua (ud (uf w _) a);go_wp2_with fail;refine(udL b s.pos s.log.length lc la _ g.c.c3 g.c.c5).mono ?_;rintro e W2 ⟨rfl,a⟩;have l:=ua (g.later a);have o:=ua (ud n a);go_wp2_with fail;refine(uby K L b s.nx ⟨0,x.to,s.pos,s.log.length⟩ _ _ d il ic most ka kc la lc _ l f.len' f.len f.done (by rw[j.out];unfold frC;simp)).mono ?_;rintro e p h;obtain⟨r,h⟩:=h;subst r;have k:Hid (ActIs (MSt.push s.nx ⟨0,x.to,s.pos,s.log.length⟩ most) K L b d il ic most _ _ p):=⟨rfl,h⟩;go_wp2;go_ret;exact k.below o
theorem ug5(K L:Nat->Prop)(b:Nat)(s:MSt)(x:um)(F:Option Addr)(G:Nat)(d:Option Addr)(il ic:Nat)(I:Nat->Int)(most:Int)(ka:Option Addr)(kc:Nat)(la:Option Addr)(lc:Nat)(w:World)(i:MacA K L w b s.nx d il ic most ka kc la lc)(r:AP most s) :
  Calls Tryz.prog 116 #[.pointer (some ⟨b,0,none⟩),kq x F G] w (ActIs (s.enter x most) K L b d il ic most w):=by
 have n:=ua i;have g:=ua r;have lb:=i.bl;have p:w.cell? ⟨b,2,none⟩=some (.int .i64 (s.at_+1)):=i.c.c2;obtain⟨E,q⟩:=nm s.nx.inNot;have o:=ua q;obtain⟨l,m⟩:∃l,s.at_+1=l:=⟨_,rfl⟩;have z:=ua m;rw[m]at p;unfold kq;clear i r q m;go_enter Tryz.func116,Tryz.ntmps116;go_wp2_with fail;refine(ubA K L b s.nx d il ic most ka kc la lc l _ (n.later (uf w _)) g.len').mono ?_;rintro e W ⟨rfl,k⟩;rw[o.out];have f:Hid (MacA K L W b s.nx d il ic most ka kc la lc):=n.later (ud (uf w _) k);have B:Hid (Below w.heap.size w W):=ud (uf w _) k;have H:=uc (a:=⟨w.heap.size,2,none⟩) (v:=.int .i64 x.to) (cN w.heap.size rfl rfl) k;have Q:=ub H;have J:=f.c.c2;have N:=f.c.fz 2;have P:=f.bl;have O:b≠w.heap.size:=by omega
 clear k p;go_wp2_with fail;have t:Hid (MacA K L (W.setCell ⟨b,2,none⟩ (.int .i64 x.to)) b { s with at_:=x.to } d il ic most ka kc la lc):=f.out.put ((Only.refl _ W).set b 2 _ rfl) rfl rfl (f.out.c.set2 x.to);have A:Hid (Kept (λy=>K y\/L y\/y=b) w (W.setCell ⟨b,2,none⟩ (.int .i64 x.to))):=uN (vk (Kept.of B.out) 2 _) (λy h=>.inr (.inr h));refine(uby K L b { s with at_:=x.to } ⟨2,s.at_+1,0,0⟩ _ _ d il ic most ka kc la lc _ (t.later (uf _ _)) g.len' g.len g.done (by rw[z.out,show({ s with at_:=x.to }:MSt).inNot=E from o.out];unfold frC;simp)).mono ?_;rintro e C j;obtain⟨D,j⟩:=j;subst D;have u:Hid (ActIs (MSt.push { s with at_:=x.to } ⟨2,s.at_+1,0,0⟩ most) K L b d il ic most _ _ C):=⟨rfl,j⟩;clear j;go_wp2;go_ret;exact u.from_ (uS A _)
theorem uiw K L b s x m n u il ic I most ka kc la lc w(q:MacA K L w b s.nx u il ic most ka kc la lc)(N:AP most s)(r:x.kind=2) :
  Calls Tryz.prog 112 #[.pointer (some ⟨b,0,none⟩),kq x m n] w (ActIs (s.act x il I most) K L b u il ic most w):=by
 have P:Hid (MacA K L w b s.nx u il ic most ka kc la lc):=q;have E:Hid (AP most s):=N;have lb:=q.bl;unfold kq;rcases uap s with⟨U,o⟩|⟨j,f,D,C,o,X⟩
 ·have v:Hid (s.act x il I most=s.fin 4):=by
   show _=_;unfold MSt.act;simp only[r,o];simp
  have i:w.cell? ⟨b,4,none⟩=some (.slice ka 0 kc):=by have:=q.c.c4;rw[show s.nx.st.length=0 from U]at this;exact this
  rw[v.out];clear q r N U o;go_enter Tryz.func112,Tryz.ntmps112;go_wp2_with fail;refine(jR b ka kc _ (uv _ i)).mono ?_;rintro e W ⟨rfl,A⟩;subst W;go_wp2;go_ret;exact vr (t:=s.fin 4) (P.out.later (vb w _ _)) (Kept.of (vb w _ _)) rfl ⟨_,_,rfl⟩
 obtain⟨g,rfl,hg,aa,k⟩:=qY (l:=s.st) q.st D C;have i:w.cell? ⟨b,4,none⟩=some (.slice (some ⟨g,0,none⟩) (j+1) kc):=by have:=q.c.c4;rw[show s.nx.st.length=j+1 from D]at this;exact this
 have z:=q.c.fz 4;have a:=E.out.kinds f (List.mem_of_getElem? C);have G:j<=1000:=by have:=E.out.len';omega
 have H:j+1<=kc:=by omega
 have HJ:Hid (s.st.length=j+1):=D;have ab:Hid (s.st[j]?=some f):=C;have ad:Hid (xv s.st=f.to):=X;obtain⟨O,J⟩:∃O,s.st.any (λf=>f.kind==1)=O:=⟨_,rfl⟩;have ac:Hid (s.st.any (λf=>f.kind==1)=O):=J;rw[J]at k;unfold frC at k;have F:Hid (∀W,Below w.heap.size w W->MacA K L (W.setCell ⟨b,4,none⟩ (.slice (some ⟨g,0,none⟩) j kc)) b s.pop.nx u il ic most (some ⟨g,0,none⟩) kc la lc/\Kept (λy=>y=b) w (W.setCell ⟨b,4,none⟩ (.slice (some ⟨g,0,none⟩) j kc))):=λW A=>⟨(P.out.later A).popped HJ.out,vk (Kept.of A) 4 _⟩
 clear q N J C X aa D;rcases a with a|a|a
 ·rw[if_pos a]at k;have v:Hid (s.act x il I most={ s.pop with at_:=x.to }):=by
   show _=_;unfold MSt.act;simp only[r,o,a];simp
  have Q:Hid (f.kind=0):=a;rw[v.out];clear r o a;go_enter Tryz.func112,Tryz.ntmps112;go_wp2_with fail;refine(vm b g j kc _ _ (uv _ i) (vC _ i z) (uv _ k) G H).mono ?_;rintro e W ⟨rfl,A⟩;subst W;obtain⟨d,p⟩:=F.out _ (uf w (.cells #[.int .i64 x.kind,.int .i64 x.arg,.int .i64 x.to,.slice m x.sl n] 79));have B:((w.alloc (.cells #[.int .i64 x.kind,.int .i64 x.arg,.int .i64 x.to,.slice m x.sl n] 79)).setCell ⟨b,4,none⟩ (.slice (some ⟨g,0,none⟩) j kc)).cell? ⟨w.heap.size,2,none⟩=some (.int .i64 x.to):=vK (by omega) (cN w.heap.size rfl rfl);generalize (w.alloc (.cells #[.int .i64 x.kind,.int .i64 x.arg,.int .i64 x.to,.slice m x.sl n] 79)).setCell ⟨b,4,none⟩ (.slice (some ⟨g,0,none⟩) j kc)=V at *;have HV':Hid (MacA K L V b s.pop.nx u il ic most (some ⟨g,0,none⟩) kc la lc):=d;have HKV':Hid (Kept (λy=>y=b) w V):=p;have Y:=d.bl;have Z:w.heap.size<V.heap.size:=ub B;have T:b≠w.heap.size:=by omega
  have R:=d.c.c2;have S:=d.c.fz 2;clear d p i z k;go_wp2;go_ret;have h3:MacA K L (V.setCell ⟨b,2,none⟩ (.int .i64 x.to)) b { s.pop with at_:=x.to } u il ic most (some ⟨g,0,none⟩) kc la lc:=HV'.out.put ((Only.refl _ V).set b 2 _ rfl) rfl rfl (HV'.out.c.set2 x.to);exact uiu (h3.later (uf _ _)) (uN (uS (vk HKV'.out 2 _) _) (λy h=>.inr (.inr h))) E.out.done
 ·rw[if_neg (by rw[a];decide),if_pos a]at k;have v:Hid (s.act x il I most=s.fin 4):=by
   show _=_;unfold MSt.act;simp only[r,o,a];simp
  have Q:Hid (f.kind=1):=a;rw[v.out];clear r o a;go_enter Tryz.func112,Tryz.ntmps112;go_wp2_with fail;refine(vm b g j kc _ _ (uv _ i) (vC _ i z) (uv _ k) G H).mono ?_;rintro e W ⟨rfl,A⟩;subst W;obtain⟨d,p⟩:=F.out _ (uf w (.cells #[.int .i64 x.kind,.int .i64 x.arg,.int .i64 x.to,.slice m x.sl n] 79));have B:((w.alloc (.cells #[.int .i64 x.kind,.int .i64 x.arg,.int .i64 x.to,.slice m x.sl n] 79)).setCell ⟨b,4,none⟩ (.slice (some ⟨g,0,none⟩) j kc)).cell? ⟨w.heap.size,2,none⟩=some (.int .i64 x.to):=vK (by omega) (cN w.heap.size rfl rfl);generalize (w.alloc (.cells #[.int .i64 x.kind,.int .i64 x.arg,.int .i64 x.to,.slice m x.sl n] 79)).setCell ⟨b,4,none⟩ (.slice (some ⟨g,0,none⟩) j kc)=V at *;have HV':Hid (MacA K L V b s.pop.nx u il ic most (some ⟨g,0,none⟩) kc la lc):=d;have HKV':Hid (Kept (λy=>y=b) w V):=p;have Y:=d.bl;have Z:w.heap.size<V.heap.size:=ub B;have T:b≠w.heap.size:=by omega
  have R:=d.c.c2;have S:=d.c.fz 2;clear d p i z k;go_wp2;go_ret;exact vr (t:=s.fin 4) (HV'.out.later (uf _ _)) (uN (uS HKV'.out _) (λy h=>.inr (.inr h))) rfl ⟨_,_,rfl⟩
 rw[if_neg (by rw[a];decide),if_neg (by rw[a];decide)]at k;have v:Hid (s.act x il I most=s.fin 4):=by
  show _=_;unfold MSt.act;simp only[r,o,a];simp
 have Q:Hid (f.kind=2):=a;rw[v.out];clear r o a;go_enter Tryz.func112,Tryz.ntmps112;go_wp2_with fail;refine(vm b g j kc _ _ (uv _ i) (vC _ i z) (uv _ k) G H).mono ?_;rintro e W ⟨rfl,A⟩;subst W;obtain⟨d,p⟩:=F.out _ (uf w (.cells #[.int .i64 x.kind,.int .i64 x.arg,.int .i64 x.to,.slice m x.sl n] 79));have B:((w.alloc (.cells #[.int .i64 x.kind,.int .i64 x.arg,.int .i64 x.to,.slice m x.sl n] 79)).setCell ⟨b,4,none⟩ (.slice (some ⟨g,0,none⟩) j kc)).cell? ⟨w.heap.size,2,none⟩=some (.int .i64 x.to):=vK (by omega) (cN w.heap.size rfl rfl);generalize (w.alloc (.cells #[.int .i64 x.kind,.int .i64 x.arg,.int .i64 x.to,.slice m x.sl n] 79)).setCell ⟨b,4,none⟩ (.slice (some ⟨g,0,none⟩) j kc)=V at *;have HV':Hid (MacA K L V b s.pop.nx u il ic most (some ⟨g,0,none⟩) kc la lc):=d;have HKV':Hid (Kept (λy=>y=b) w V):=p;have Y:=d.bl;have Z:w.heap.size<V.heap.size:=ub B;have T:b≠w.heap.size:=by omega
 have R:=d.c.c2;have S:=d.c.fz 2;clear d p i z k;go_wp2;go_ret;exact vr (t:=s.fin 4) (HV'.out.later (uf _ _)) (uN (uS HKV'.out _) (λy h=>.inr (.inr h))) rfl ⟨_,_,rfl⟩
theorem uoP K L b s x m n u il ic I most ka kc la lc w(q:MacA K L w b s.nx u il ic most ka kc la lc)(N:AP most s)(r:x.kind=7) :
  Calls Tryz.prog 117 #[.pointer (some ⟨b,0,none⟩),kq x m n] w (ActIs (s.act x il I most) K L b u il ic most w):=by
 have Q:Hid (MacA K L w b s.nx u il ic most ka kc la lc):=q;have E:Hid (AP most s):=N;have lb:=q.bl;unfold kq;rcases uap s with⟨X,o⟩|⟨j,f,D,C,o,O⟩
 ·have v:Hid (s.act x il I most=s.fin 4):=by
   show _=_;unfold MSt.act;simp only[r,o];simp
  have i:w.cell? ⟨b,4,none⟩=some (.slice ka 0 kc):=by have:=q.c.c4;rw[show s.nx.st.length=0 from X]at this;exact this
  rw[v.out];clear q r N X o;go_enter Tryz.func117,Tryz.ntmps117;go_wp2_with fail;refine(jR b ka kc _ (uv _ i)).mono ?_;rintro e W ⟨rfl,A⟩;subst W;go_wp2;go_ret;exact vr (t:=s.fin 4) (Q.out.later (vb w _ _)) (Kept.of (vb w _ _)) rfl ⟨_,_,rfl⟩
 obtain⟨g,rfl,hg,aa,k⟩:=qY (l:=s.st) q.st D C;have i:w.cell? ⟨b,4,none⟩=some (.slice (some ⟨g,0,none⟩) (j+1) kc):=by have:=q.c.c4;rw[show s.nx.st.length=j+1 from D]at this;exact this
 have z:=q.c.fz 4;have a:=E.out.kinds f (List.mem_of_getElem? C);have G:j<=1000:=by have:=E.out.len';omega
 have H:j+1<=kc:=by omega
 have HJ:Hid (s.st.length=j+1):=D;have ab:Hid (s.st[j]?=some f):=C;have ad:Hid (xv s.st=f.to):=O;obtain⟨P,J⟩:∃P,s.st.any (λf=>f.kind==1)=P:=⟨_,rfl⟩;have ac:Hid (s.st.any (λf=>f.kind==1)=P):=J;rw[J]at k;unfold frC at k;have F:Hid (∀W,Below w.heap.size w W->MacA K L (W.setCell ⟨b,4,none⟩ (.slice (some ⟨g,0,none⟩) j kc)) b s.pop.nx u il ic most (some ⟨g,0,none⟩) kc la lc/\Kept (λy=>y=b) w (W.setCell ⟨b,4,none⟩ (.slice (some ⟨g,0,none⟩) j kc))):=λW A=>⟨(Q.out.later A).popped HJ.out,vk (Kept.of A) 4 _⟩
 have hto':=O;clear q N J C O aa D;rcases a with a|a|a
 ·rw[if_pos a]at k;have v:Hid (s.act x il I most=s.fin 4):=by
   show _=_;unfold MSt.act;simp only[r,o,a,hto'];simp
  have R:Hid (f.kind=0):=a;rw[v.out];clear r o a hto';go_enter Tryz.func117,Tryz.ntmps117;go_wp2_with fail;refine(vm b g j kc _ _ (uv _ i) (vC _ i z) (uv _ k) G H).mono ?_;rintro e W ⟨rfl,A⟩;subst W;obtain⟨d,p⟩:=F.out _ (uf w (.cells #[.int .i64 x.kind,.int .i64 x.arg,.int .i64 x.to,.slice m x.sl n] 79));have B:((w.alloc (.cells #[.int .i64 x.kind,.int .i64 x.arg,.int .i64 x.to,.slice m x.sl n] 79)).setCell ⟨b,4,none⟩ (.slice (some ⟨g,0,none⟩) j kc)).cell? ⟨w.heap.size,2,none⟩=some (.int .i64 x.to):=vK (by omega) (cN w.heap.size rfl rfl);generalize (w.alloc (.cells #[.int .i64 x.kind,.int .i64 x.arg,.int .i64 x.to,.slice m x.sl n] 79)).setCell ⟨b,4,none⟩ (.slice (some ⟨g,0,none⟩) j kc)=V at *;have HV':Hid (MacA K L V b s.pop.nx u il ic most (some ⟨g,0,none⟩) kc la lc):=d;have HKV':Hid (Kept (λy=>y=b) w V):=p;have Y:=d.bl;have Z:w.heap.size<V.heap.size:=ub B;have U:b≠w.heap.size:=by omega
  have S:=d.c.c2;have T:=d.c.fz 2;clear d p i z k;go_wp2;go_ret;exact vr (t:=s.fin 4) (HV'.out.later (uf _ _)) (uN (uS HKV'.out _) (λy h=>.inr (.inr h))) rfl ⟨_,_,rfl⟩
 ·rw[if_neg (by rw[a];decide),if_pos a]at k;have v:Hid (s.act x il I most=s.fin 4):=by
   show _=_;unfold MSt.act;simp only[r,o,a,hto'];simp
  have R:Hid (f.kind=1):=a;rw[v.out];clear r o a hto';go_enter Tryz.func117,Tryz.ntmps117;go_wp2_with fail;refine(vm b g j kc _ _ (uv _ i) (vC _ i z) (uv _ k) G H).mono ?_;rintro e W ⟨rfl,A⟩;subst W;obtain⟨d,p⟩:=F.out _ (uf w (.cells #[.int .i64 x.kind,.int .i64 x.arg,.int .i64 x.to,.slice m x.sl n] 79));have B:((w.alloc (.cells #[.int .i64 x.kind,.int .i64 x.arg,.int .i64 x.to,.slice m x.sl n] 79)).setCell ⟨b,4,none⟩ (.slice (some ⟨g,0,none⟩) j kc)).cell? ⟨w.heap.size,2,none⟩=some (.int .i64 x.to):=vK (by omega) (cN w.heap.size rfl rfl);generalize (w.alloc (.cells #[.int .i64 x.kind,.int .i64 x.arg,.int .i64 x.to,.slice m x.sl n] 79)).setCell ⟨b,4,none⟩ (.slice (some ⟨g,0,none⟩) j kc)=V at *;have HV':Hid (MacA K L V b s.pop.nx u il ic most (some ⟨g,0,none⟩) kc la lc):=d;have HKV':Hid (Kept (λy=>y=b) w V):=p;have Y:=d.bl;have Z:w.heap.size<V.heap.size:=ub B;have U:b≠w.heap.size:=by omega
  have S:=d.c.c2;have T:=d.c.fz 2;clear d p i z k;go_wp2;go_ret;exact vr (t:=s.fin 4) (HV'.out.later (uf _ _)) (uN (uS HKV'.out _) (λy h=>.inr (.inr h))) rfl ⟨_,_,rfl⟩
 rw[if_neg (by rw[a];decide),if_neg (by rw[a];decide)]at k;have v:Hid (s.act x il I most={ s.pop with at_:=f.to }):=by
  show _=_;unfold MSt.act;simp only[r,o,a,hto'];simp
 have R:Hid (f.kind=2):=a;rw[v.out];clear r o a hto';go_enter Tryz.func117,Tryz.ntmps117;go_wp2_with fail;refine(vm b g j kc _ _ (uv _ i) (vC _ i z) (uv _ k) G H).mono ?_;rintro e W ⟨rfl,A⟩;subst W;obtain⟨d,p⟩:=F.out _ (uf w (.cells #[.int .i64 x.kind,.int .i64 x.arg,.int .i64 x.to,.slice m x.sl n] 79));have B:((w.alloc (.cells #[.int .i64 x.kind,.int .i64 x.arg,.int .i64 x.to,.slice m x.sl n] 79)).setCell ⟨b,4,none⟩ (.slice (some ⟨g,0,none⟩) j kc)).cell? ⟨w.heap.size,2,none⟩=some (.int .i64 x.to):=vK (by omega) (cN w.heap.size rfl rfl);generalize (w.alloc (.cells #[.int .i64 x.kind,.int .i64 x.arg,.int .i64 x.to,.slice m x.sl n] 79)).setCell ⟨b,4,none⟩ (.slice (some ⟨g,0,none⟩) j kc)=V at *;have HV':Hid (MacA K L V b s.pop.nx u il ic most (some ⟨g,0,none⟩) kc la lc):=d;have HKV':Hid (Kept (λy=>y=b) w V):=p;have Y:=d.bl;have Z:w.heap.size<V.heap.size:=ub B;have U:b≠w.heap.size:=by omega
 have S:=d.c.c2;have T:=d.c.fz 2;clear d p i z k;go_wp2;go_ret;have h3:MacA K L (V.setCell ⟨b,2,none⟩ (.int .i64 f.to)) b { s.pop with at_:=f.to } u il ic most (some ⟨g,0,none⟩) kc la lc:=HV'.out.put ((Only.refl _ V).set b 2 _ rfl) rfl rfl (HV'.out.c.set2 f.to);exact uiu (h3.later (uf _ _)) (uN (uS (vk HKV'.out 2 _) _) (λy h=>.inr (.inr h))) E.out.done
theorem ukP K L b s x m n p il ic I most ka kc la lc w(r:MacA K L w b s.nx p il ic most ka kc la lc)(O:AP most s)(u:x.kind=5) :
  Calls Tryz.prog 115 #[.pointer (some ⟨b,0,none⟩),kq x m n] w (ActIs (s.act x il I most) K L b p il ic most w):=by
 have Q:Hid (MacA K L w b s.nx p il ic most ka kc la lc):=r;have z:Hid (AP most s):=O;have lb:=r.bl;unfold kq;rcases uap s with⟨X,o⟩|⟨j,f,F,E,o,Y⟩
 ·have v:Hid (s.act x il I most=s.fin 4):=by
   show _=_;unfold MSt.act;simp only[u,o];simp
  have i:w.cell? ⟨b,4,none⟩=some (.slice ka 0 kc):=by have:=r.c.c4;rw[show s.nx.st.length=0 from X]at this;exact this
  rw[v.out];clear r u O X o;go_enter Tryz.func115,Tryz.ntmps115;go_wp2_with fail;refine(jR b ka kc _ (uv _ i)).mono ?_;rintro e W ⟨rfl,B⟩;subst W;go_wp2;go_ret;exact vr (t:=s.fin 4) (Q.out.later (vb w _ _)) (Kept.of (vb w _ _)) rfl ⟨_,_,rfl⟩
 obtain⟨g,rfl,hg,ac,k⟩:=qY (l:=s.st) r.st F E;have i:w.cell? ⟨b,4,none⟩=some (.slice (some ⟨g,0,none⟩) (j+1) kc):=by have:=r.c.c4;rw[show s.nx.st.length=j+1 from F]at this;exact this
 have A:=r.c.fz 4;have a:=z.out.kinds f (List.mem_of_getElem? E);have H:j<=1000:=by have:=z.out.len';omega
 have J:j+1<=kc:=by omega
 have HJ:Hid (s.st.length=j+1):=F;have ad:Hid (s.st[j]?=some f):=E;have af:Hid (xv s.st=f.to):=Y;obtain⟨P,N⟩:∃P,s.st.any (λf=>f.kind==1)=P:=⟨_,rfl⟩;have ae:Hid (s.st.any (λf=>f.kind==1)=P):=N;rw[N]at k;unfold frC at k;have G:Hid (∀W,Below w.heap.size w W->MacA K L (W.setCell ⟨b,4,none⟩ (.slice (some ⟨g,0,none⟩) j kc)) b s.pop.nx p il ic most (some ⟨g,0,none⟩) kc la lc/\Kept (λy=>y=b) w (W.setCell ⟨b,4,none⟩ (.slice (some ⟨g,0,none⟩) j kc))):=λW B=>⟨(Q.out.later B).popped HJ.out,vk (Kept.of B) 4 _⟩
 clear r O N E Y ac F;rcases a with a|a|a
 ·rw[if_pos a]at k;have v:Hid (s.act x il I most=s.fin 4):=by
   show _=_;unfold MSt.act;simp only[u,o,a];simp
  have R:Hid (f.kind=0):=a;rw[v.out];clear u o a;go_enter Tryz.func115,Tryz.ntmps115;go_wp2_with fail;refine(vm b g j kc _ _ (uv _ i) (vC _ i A) (uv _ k) H J).mono ?_;rintro e W ⟨rfl,B⟩;subst W;obtain⟨d,q⟩:=G.out _ (uf w (.cells #[.int .i64 x.kind,.int .i64 x.arg,.int .i64 x.to,.slice m x.sl n] 79));have C:((w.alloc (.cells #[.int .i64 x.kind,.int .i64 x.arg,.int .i64 x.to,.slice m x.sl n] 79)).setCell ⟨b,4,none⟩ (.slice (some ⟨g,0,none⟩) j kc)).cell? ⟨w.heap.size,2,none⟩=some (.int .i64 x.to):=vK (by omega) (cN w.heap.size rfl rfl);generalize (w.alloc (.cells #[.int .i64 x.kind,.int .i64 x.arg,.int .i64 x.to,.slice m x.sl n] 79)).setCell ⟨b,4,none⟩ (.slice (some ⟨g,0,none⟩) j kc)=V at *;have HV':Hid (MacA K L V b s.pop.nx p il ic most (some ⟨g,0,none⟩) kc la lc):=d;have HKV':Hid (Kept (λy=>y=b) w V):=q;have Z:=d.bl;have aa:w.heap.size<V.heap.size:=ub C;have U:b≠w.heap.size:=by omega
  have S:=d.c.c2;have T:=d.c.fz 2;clear d q i A k;go_wp2;go_ret;exact vr (t:=s.fin 4) (HV'.out.later (uf _ _)) (uN (uS HKV'.out _) (λy h=>.inr (.inr h))) rfl ⟨_,_,rfl⟩
 ·rw[if_neg (by rw[a];decide),if_pos a]at k;have v:Hid (s.act x il I most=s.pop.fail):=by
   show _=_;unfold MSt.act;simp only[u,o,a];simp
  have R:Hid (f.kind=1):=a;rw[v.out];clear u o a;go_enter Tryz.func115,Tryz.ntmps115;go_wp2_with fail;refine(vm b g j kc _ _ (uv _ i) (vC _ i A) (uv _ k) H J).mono ?_;rintro e W ⟨rfl,B⟩;subst W;obtain⟨d,q⟩:=G.out _ (uf w (.cells #[.int .i64 x.kind,.int .i64 x.arg,.int .i64 x.to,.slice m x.sl n] 79));have C:((w.alloc (.cells #[.int .i64 x.kind,.int .i64 x.arg,.int .i64 x.to,.slice m x.sl n] 79)).setCell ⟨b,4,none⟩ (.slice (some ⟨g,0,none⟩) j kc)).cell? ⟨w.heap.size,2,none⟩=some (.int .i64 x.to):=vK (by omega) (cN w.heap.size rfl rfl);generalize (w.alloc (.cells #[.int .i64 x.kind,.int .i64 x.arg,.int .i64 x.to,.slice m x.sl n] 79)).setCell ⟨b,4,none⟩ (.slice (some ⟨g,0,none⟩) j kc)=V at *;have HV':Hid (MacA K L V b s.pop.nx p il ic most (some ⟨g,0,none⟩) kc la lc):=d;have HKV':Hid (Kept (λy=>y=b) w V):=q;have Z:=d.bl;have aa:w.heap.size<V.heap.size:=ub C;have U:b≠w.heap.size:=by omega
  have S:=d.c.c2;have T:=d.c.fz 2;clear d q i A k;go_wp2_with fail;refine(jQ K L b s.pop.nx p il ic most (some ⟨g,0,none⟩) kc la lc _ (HV'.out.later (uf _ _)) (ug4 z.out) z.out.done (umG z.out) (ukO z.out)).mono ?_;rintro e W9 D;obtain⟨he,D⟩:=D;subst he;have ab:Hid (ActIs (MSt.fail s.pop.nx) K L b p il ic most _ _ W9):=⟨rfl,D⟩;clear D;go_wp2;go_ret;exact(ab.out.from_ (uN (uS HKV'.out _) (λy h=>.inr (.inr h)))).fail
 rw[if_neg (by rw[a];decide),if_neg (by rw[a];decide)]at k;have v:Hid (s.act x il I most=s.fin 4):=by
  show _=_;unfold MSt.act;simp only[u,o,a];simp
 have R:Hid (f.kind=2):=a;rw[v.out];clear u o a;go_enter Tryz.func115,Tryz.ntmps115;go_wp2_with fail;refine(vm b g j kc _ _ (uv _ i) (vC _ i A) (uv _ k) H J).mono ?_;rintro e W ⟨rfl,B⟩;subst W;obtain⟨d,q⟩:=G.out _ (uf w (.cells #[.int .i64 x.kind,.int .i64 x.arg,.int .i64 x.to,.slice m x.sl n] 79));have C:((w.alloc (.cells #[.int .i64 x.kind,.int .i64 x.arg,.int .i64 x.to,.slice m x.sl n] 79)).setCell ⟨b,4,none⟩ (.slice (some ⟨g,0,none⟩) j kc)).cell? ⟨w.heap.size,2,none⟩=some (.int .i64 x.to):=vK (by omega) (cN w.heap.size rfl rfl);generalize (w.alloc (.cells #[.int .i64 x.kind,.int .i64 x.arg,.int .i64 x.to,.slice m x.sl n] 79)).setCell ⟨b,4,none⟩ (.slice (some ⟨g,0,none⟩) j kc)=V at *;have HV':Hid (MacA K L V b s.pop.nx p il ic most (some ⟨g,0,none⟩) kc la lc):=d;have HKV':Hid (Kept (λy=>y=b) w V):=q;have Z:=d.bl;have aa:w.heap.size<V.heap.size:=ub C;have U:b≠w.heap.size:=by omega
 have S:=d.c.c2;have T:=d.c.fz 2;clear d q i A k;go_wp2;go_ret;exact vr (t:=s.fin 4) (HV'.out.later (uf _ _)) (uN (uS HKV'.out _) (λy h=>.inr (.inr h))) rfl ⟨_,_,rfl⟩
theorem ug6 K L b s x r u k il ic I most ka kc la lc w(B:MacA K L w b s.nx k il ic most ka kc la lc)(hp:AP most s)(D:x.kind=3) :
  Calls Tryz.prog 113 #[.pointer (some ⟨b,0,none⟩),kq x r u] w (ActIs (s.act x il I most) K L b k il ic most w):=by
 have HA:Hid (MacA K L w b s.nx k il ic most ka kc la lc):=B;have J:Hid (AP most s):=hp;have lb:=B.bl;unfold kq;rcases uap s with⟨ah,z⟩|⟨j,f,R,Q,z,ad⟩
 ·have E:Hid (s.act x il I most=s.fin 4):=by
   show _=_;unfold MSt.act;simp only[D,z];simp
  have m:w.cell? ⟨b,4,none⟩=some (.slice ka 0 kc):=by have:=B.c.c4;rw[show s.nx.st.length=0 from ah]at this;exact this
  rw[E.out];clear B D hp ah z;go_enter Tryz.func113,Tryz.ntmps113;go_wp2_with fail;refine(jR b ka kc _ (uv _ m)).mono ?_;rintro e W ⟨rfl,H⟩;subst W;go_wp2;go_ret;exact vr (t:=s.fin 4) (HA.out.later (vb w _ _)) (Kept.of (vb w _ _)) rfl ⟨_,_,rfl⟩
 obtain⟨g,rfl,hg,ap,n⟩:=qY (l:=s.st) B.st R Q;have m:w.cell? ⟨b,4,none⟩=some (.slice (some ⟨g,0,none⟩) (j+1) kc):=by have:=B.c.c4;rw[show s.nx.st.length=j+1 from R]at this;exact this
 have G:=B.c.fz 4;have d:=J.out.kinds f (List.mem_of_getElem? Q);have aa:j<=1000:=by have:=J.out.len';omega
 have ab:j+1<=kc:=by omega
 have HJ:Hid (s.st.length=j+1):=R;have am:Hid (s.st[j]?=some f):=Q;have aq:Hid (xv s.st=f.to):=ad;obtain⟨N,ac⟩:∃N,s.st.any (λf=>f.kind==1)=N:=⟨_,rfl⟩;have ao:Hid (s.st.any (λf=>f.kind==1)=N):=ac;rw[ac]at n;unfold frC at n;have U:Hid (∀W,Below w.heap.size w W->MacA K L (W.setCell ⟨b,4,none⟩ (.slice (some ⟨g,0,none⟩) j kc)) b s.pop.nx k il ic most (some ⟨g,0,none⟩) kc la lc/\Kept (λy=>y=b) w (W.setCell ⟨b,4,none⟩ (.slice (some ⟨g,0,none⟩) j kc))):=λW H=>⟨(HA.out.later H).popped HJ.out,vk (Kept.of H) 4 _⟩
 have hto':=ad;clear B hp ac Q ad ap R;rcases d with d|d|d
 ·rw[if_pos d]at n;have E:Hid (s.act x il I most=({ s.pop with at_:=x.to }).push ⟨0,f.to,s.pos,s.log.length⟩ most):=by
   show _=_;unfold MSt.act;simp only[D,z,d,hto'];simp
  have T:Hid (f.kind=0):=d;rw[E.out];clear D z d hto';go_enter Tryz.func113,Tryz.ntmps113;go_wp2_with fail;refine(vm b g j kc _ _ (uv _ m) (vC _ m G) (uv _ n) aa ab).mono ?_;rintro e W ⟨rfl,H⟩;subst W;obtain⟨i,A⟩:=U.out _ (uf w (.cells #[.int .i64 x.kind,.int .i64 x.arg,.int .i64 x.to,.slice r x.sl u] 79));have F:((w.alloc (.cells #[.int .i64 x.kind,.int .i64 x.arg,.int .i64 x.to,.slice r x.sl u] 79)).setCell ⟨b,4,none⟩ (.slice (some ⟨g,0,none⟩) j kc)).cell? ⟨w.heap.size,2,none⟩=some (.int .i64 x.to):=vK (by omega) (cN w.heap.size rfl rfl);generalize (w.alloc (.cells #[.int .i64 x.kind,.int .i64 x.arg,.int .i64 x.to,.slice r x.sl u] 79)).setCell ⟨b,4,none⟩ (.slice (some ⟨g,0,none⟩) j kc)=V at *;have HV':Hid (MacA K L V b s.pop.nx k il ic most (some ⟨g,0,none⟩) kc la lc):=i;have HKV':Hid (Kept (λy=>y=b) w V):=A;have ai:=i.bl;have aj:w.heap.size<V.heap.size:=ub F;have ag:b≠w.heap.size:=by omega
  have X:=i.c.c2;have Z:=i.c.fz 2;clear i A m G n;go_wp2_with fail;refine(udL b s.pos s.log.length lc la _ (HV'.out.later (uf _ _)).c.c3 (HV'.out.later (uf _ _)).c.c5).mono ?_;rintro e W2 ⟨rfl,C⟩;have O:Hid (MacA K L W2 b s.pop.nx k il ic most (some ⟨g,0,none⟩) kc la lc):=HV'.out.later (ud (uf _ _) C);have ae:Hid (Below V.heap.size V W2):=ud (uf _ _) C;have y0:=uc (a:=⟨V.heap.size,0,none⟩) (v:=.int .i64 f.to) (cN V.heap.size rfl rfl) C;have y1:=uc (a:=⟨V.heap.size,1,none⟩) (v:=.bool N) (cN V.heap.size rfl rfl) C;have y2:=uc (a:=⟨V.heap.size,2,none⟩) (v:=.int .i64 (f.pos:Int)) (cN V.heap.size rfl rfl) C;have y3:=uc (a:=⟨V.heap.size,3,none⟩) (v:=.int .i64 (f.log:Int)) (cN V.heap.size rfl rfl) C;have Y:∀o,W2.frozen? ⟨V.heap.size,o,none⟩=false:=λo=>by
   rw[C.frozen (p:=⟨V.heap.size,o,none⟩) (by simp)];exact uaE V _ 200 _ _ (by omega) (by simp)
  have q2:=Y 2;have q3:=Y 3;have x2:=uc F ae.out;have ay:w.heap.size<W2.heap.size:=ub x2;have ax:V.heap.size<W2.heap.size:=ub y0;have e2:=O.out.c.c2;have r2:=O.out.c.fz 2;have aw:=O.out.bl;have au:b≠V.heap.size:=by omega
  have av:w.heap.size≠V.heap.size:=by omega
  clear C Y F X Z;go_wp2_with fail;have ak:Hid (MacA K L (((W2.setCell ⟨V.heap.size,2,none⟩ (.int .i64 (s.pos:Int))).setCell ⟨V.heap.size,3,none⟩ (.int .i64 (s.log.length:Int))).setCell ⟨b,2,none⟩ (.int .i64 x.to)) b { s.pop with at_:=x.to } k il ic most (some ⟨g,0,none⟩) kc la lc):=by
   have af:∀y,K y\/L y\/y=b->y≠V.heap.size:=λy S e=>by
    subst e;rcases S with q|q|q
    ·have:=HV'.out.lt _ (.inl q);omega
    ·have:=HV'.out.lt _ (.inr q);omega
    omega
   have h4:MacA K L ((W2.setCell ⟨V.heap.size,2,none⟩ (.int .i64 (s.pos:Int))).setCell ⟨V.heap.size,3,none⟩ (.int .i64 (s.log.length:Int))) b s.pop.nx k il ic most (some ⟨g,0,none⟩) kc la lc:=O.out.on (λy S=>(Below.heap_setCell _ _ _ _ (af y S)).trans (Below.heap_setCell _ _ _ _ (af y S))) (by rw[uh,uh];exact Nat.le_refl _);exact h4.put ((Only.refl _ _).set b 2 _ rfl) rfl rfl (h4.c.set2 x.to)
  have an:Hid (Kept (λy=>K y\/L y\/y=b) w (((W2.setCell ⟨V.heap.size,2,none⟩ (.int .i64 (s.pos:Int))).setCell ⟨V.heap.size,3,none⟩ (.int .i64 (s.log.length:Int))).setCell ⟨b,2,none⟩ (.int .i64 x.to))):=by
   have h5:Kept (λy=>y=b) w W2:=yV HKV'.out (Kept.of ae.out);exact uN (vk ((h5.set _ _ _ (by have:=HKV'.out.size;omega)).set _ _ _ (by have:=HKV'.out.size;omega)) 2 _) (λy h=>.inr (.inr h))
  refine(uby K L b { s.pop with at_:=x.to } ⟨0,f.to,s.pos,s.log.length⟩ _ _ k il ic most (some ⟨g,0,none⟩) kc la lc _ ak.out (ug4 J.out) (umF J.out) J.out.done (by rw[show({ s.pop with at_:=x.to }:MSt).inNot=N from uoN HJ.out am.out (by rw[T.out];rfl) ao.out];unfold frC;simp)).mono ?_;rintro e W9 P;obtain⟨he,P⟩:=P;subst he;have al:Hid (ActIs (MSt.push { s.pop with at_:=x.to } ⟨0,f.to,s.pos,s.log.length⟩ most) K L b k il ic most _ _ W9):=⟨rfl,P⟩;clear P;go_wp2;go_ret;exact al.out.from_ an.out
 ·rw[if_neg (by rw[d];decide),if_pos d]at n;have E:Hid (s.act x il I most=s.fin 4):=by
   show _=_;unfold MSt.act;simp only[D,z,d,hto'];simp
  have T:Hid (f.kind=1):=d;rw[E.out];clear D z d hto';go_enter Tryz.func113,Tryz.ntmps113;go_wp2_with fail;refine(vm b g j kc _ _ (uv _ m) (vC _ m G) (uv _ n) aa ab).mono ?_;rintro e W ⟨rfl,H⟩;subst W;obtain⟨i,A⟩:=U.out _ (uf w (.cells #[.int .i64 x.kind,.int .i64 x.arg,.int .i64 x.to,.slice r x.sl u] 79));have F:((w.alloc (.cells #[.int .i64 x.kind,.int .i64 x.arg,.int .i64 x.to,.slice r x.sl u] 79)).setCell ⟨b,4,none⟩ (.slice (some ⟨g,0,none⟩) j kc)).cell? ⟨w.heap.size,2,none⟩=some (.int .i64 x.to):=vK (by omega) (cN w.heap.size rfl rfl);generalize (w.alloc (.cells #[.int .i64 x.kind,.int .i64 x.arg,.int .i64 x.to,.slice r x.sl u] 79)).setCell ⟨b,4,none⟩ (.slice (some ⟨g,0,none⟩) j kc)=V at *;have HV':Hid (MacA K L V b s.pop.nx k il ic most (some ⟨g,0,none⟩) kc la lc):=i;have HKV':Hid (Kept (λy=>y=b) w V):=A;have ai:=i.bl;have aj:w.heap.size<V.heap.size:=ub F;have ag:b≠w.heap.size:=by omega
  have X:=i.c.c2;have Z:=i.c.fz 2;clear i A m G n;go_wp2;go_ret;exact vr (t:=s.fin 4) (HV'.out.later (uf _ _)) (uN (uS HKV'.out _) (λy h=>.inr (.inr h))) rfl ⟨_,_,rfl⟩
 rw[if_neg (by rw[d];decide),if_neg (by rw[d];decide)]at n;have E:Hid (s.act x il I most=s.fin 4):=by
  show _=_;unfold MSt.act;simp only[D,z,d,hto'];simp
 have T:Hid (f.kind=2):=d;rw[E.out];clear D z d hto';go_enter Tryz.func113,Tryz.ntmps113;go_wp2_with fail;refine(vm b g j kc _ _ (uv _ m) (vC _ m G) (uv _ n) aa ab).mono ?_;rintro e W ⟨rfl,H⟩;subst W;obtain⟨i,A⟩:=U.out _ (uf w (.cells #[.int .i64 x.kind,.int .i64 x.arg,.int .i64 x.to,.slice r x.sl u] 79));have F:((w.alloc (.cells #[.int .i64 x.kind,.int .i64 x.arg,.int .i64 x.to,.slice r x.sl u] 79)).setCell ⟨b,4,none⟩ (.slice (some ⟨g,0,none⟩) j kc)).cell? ⟨w.heap.size,2,none⟩=some (.int .i64 x.to):=vK (by omega) (cN w.heap.size rfl rfl);generalize (w.alloc (.cells #[.int .i64 x.kind,.int .i64 x.arg,.int .i64 x.to,.slice r x.sl u] 79)).setCell ⟨b,4,none⟩ (.slice (some ⟨g,0,none⟩) j kc)=V at *;have HV':Hid (MacA K L V b s.pop.nx k il ic most (some ⟨g,0,none⟩) kc la lc):=i;have HKV':Hid (Kept (λy=>y=b) w V):=A;have ai:=i.bl;have aj:w.heap.size<V.heap.size:=ub F;have ag:b≠w.heap.size:=by omega
 have X:=i.c.c2;have Z:=i.c.fz 2;clear i A m G n;go_wp2;go_ret;exact vr (t:=s.fin 4) (HV'.out.later (uf _ _)) (uN (uS HKV'.out _) (λy h=>.inr (.inr h))) rfl ⟨_,_,rfl⟩
end Go.Proofs.YtpghlcdkfldlpaaGreat
