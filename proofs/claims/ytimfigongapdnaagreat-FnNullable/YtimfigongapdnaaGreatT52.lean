import Derived.Test.YtimfigongapdnaaGreatT51
set_option linter.unusedVariables false
set_option linter.unusedSimpArgs false
set_option maxHeartbeats 40000000
set_option maxRecDepth 100000
namespace Go.Proofs.YtimfigongapdnaaGreat
open Go.RowKit
open M (OpD ug Gr ur)
attribute [local go_sem] uj1 unp unq unr uj2 uns unt unu uj3 unv unw unx
structure AP(most:Int)(s:MSt):Prop where
 m1:most<=1000
 len:(s.st.length:Int)<=most
 last:∀f,f∈s.st->f.kind≠2->f.log<=s.log.length
 kinds:∀f,f∈s.st->f.kind=0\/f.kind=1\/f.kind=2
 logl:s.log.length<=1048576
 done:s.done=false
theorem AP.len'{most s}(h:AP most s):s.st.length<=1000:=by have:=h.m1;have:=h.len;omega
def xP(x:ur)(a:Option Addr)(b:Nat):Value:=.agg #[.int .i64 x.kind,.int .i64 x.arg,.int .i64 x.to,.slice a x.sl b]
def MSt.nx(s:MSt):MSt:={ s with at_:=s.at_+1 }
theorem ActIs.from_{t K L b f il ic most w W w' e}(c:Kept (fun x=>K x\/L x\/x=b) w W)(h:ActIs t K L b f il ic most W e w'):ActIs t K L b f il ic most w e w':=by
 obtain⟨j,z,st,ka,kc,la,lc,g,i,k,l,m,n,o⟩:=h;have p:=c.size;have d:∀x,New W w' x->New w w' x:=fun x a=>⟨by have:=a.1;omega,a.2⟩
 exact⟨j,z,st,ka,kc,la,lc,g,i,k,l,fun x a=>(m x a).imp id (d x),fun x a=>(n x a).imp id (d x),yF c o⟩
theorem ActIs.below{t K L b a il ic most w W w' e}(c:Below w.heap.size w W)(h:ActIs t K L b a il ic most W e w'):ActIs t K L b a il ic most w e w':=h.from_ (Kept.of c)
theorem ActIs.over{t c:MSt}{K L:Nat->Prop}{b:Nat}{a:Option Addr}{il ic:Nat}{most:Int}{w w':World}{e:Ending}(h:ActIs t K L b a il ic most w e w')(g:t.done=true)(i:∃z st,c={ t with at_:=z,st:=st }):ActIs c K L b a il ic most w e w':=by
 obtain⟨o,n,rfl⟩:=i;obtain⟨j,z,st,ka,kc,la,lc,d,f,m,k,l⟩:=h;refine⟨j,z,st,ka,kc,la,lc,d,f,fun q=>?_,k,l⟩
 have q':=q;rw[g]at q';cases q'
theorem ActIs.fail{s:MSt}{z:Int}{K L:Nat->Prop}{b:Nat}{d:Option Addr}{il ic:Nat}{most:Int}{w w':World}{e:Ending}(h:ActIs (MSt.fail { s with at_:=z }) K L b d il ic most w e w'):ActIs s.fail K L b d il ic most w e w':=by
 cases c:uU s.st.reverse with
 |none =>
  have a:MSt.fail { s with at_:=z }=MSt.fin { s with at_:=z } 1:=by unfold MSt.fail;simp only[c]
  have g:s.fail=s.fin 1:=by unfold MSt.fail;rw[c]
  rw[a]at h;rw[g];exact h.over rfl ⟨s.at_,s.st,rfl⟩
 |some p =>
  obtain⟨f,r⟩:=p;have a:MSt.fail { s with at_:=z }=s.fail:=by unfold MSt.fail;simp only[c]
  rw[<-a];exact h
theorem yQ{K L:Nat->Prop}{b:Nat}{s:MSt}{f:Option Addr}{il ic:Nat}{most:Int}{ka:Option Addr}{kc:Nat}{la:Option Addr}{lc:Nat}{w W:World}{t:MSt}(d:MacA K L W b s f il ic most ka kc la lc)(j:Kept (fun x=>K x\/L x\/x=b) w W)(i:t.done=true)(a:∃z st,s={ t with at_:=z,st:=st,done:=s.done,code:=s.code }):ActIs t K L b f il ic most w (.returned (.int .i64 t.code)) W:=by
 obtain⟨z,st,a⟩:=a;have g:s.st=st:=by rw[a]
 have h:s.log=t.log:=by rw[a]
 refine⟨by unfold jt;rw[i];rfl,z,st,ka,kc,la,lc,K,L,(fun q=>by rw[i]at q;cases q),⟨?_,?_,?_,d.lt,d.kl,d.kb,d.lb⟩,fun x e=>.inl e,fun x e=>.inl e,j⟩
 ·show MacC W b _ f il ic most ka st.length kc la t.log.length lc
  rw[<-g,<-h];exact d.c.re (by rw[a]) (by rw[a]) (by rw[a]) (by rw[a]) (by rw[a]) (by rw[a]) (by rw[a])
 ·show OwnC K W (.slice ka st.length kc) 1 st.length (vl false st)
  rw[<-g];exact d.st
 ·show OwnC L W (.slice la t.log.length lc) 3 t.log.length (vA t.log)
  rw[<-h];exact d.log
theorem uiI{K L b c il ic most ka kc la lc w W t}(e:MacA K L W b t c il ic most ka kc la lc)(f:Kept (fun x=>K x\/L x\/x=b) w W)(d:t.done=false):ActIs t K L b c il ic most w (.returned (.int .i64 (-1))) W :=
 ⟨by unfold jt;rw[d];rfl,t.at_,t.st,ka,kc,la,lc,K,L,fun _=>⟨rfl,rfl⟩,e,fun x a=>.inl a,fun x a=>.inl a,f⟩
theorem uY{P R w W}(h:Kept P w W)(k:∀x,P x->R x):Kept R w W:=⟨h.os,h.tape,h.output,h.size,fun x b a=>h.block x b (fun q=>a (k x q))⟩
theorem ulc(s:MSt):(s.st.length=0/\∀k,s.top k=false)\/∃j f,s.st.length=j+1/\s.st[j]? = some f/\(∀k,s.top k=(f.kind==k))/\kX s.st=f.to:=by
 rcases Nat.eq_zero_or_pos s.st.length with a | a
 ·refine .inl ⟨a,fun k=>?_⟩
  unfold MSt.top;rw[List.eq_nil_of_length_eq_zero a];rfl
 ·obtain⟨j,b⟩:∃j,s.st.length=j+1:=⟨s.st.length-1,by omega⟩
  obtain⟨f,d,c⟩:=ua6 b;refine .inr ⟨j,f,b,d,fun k=>?_,?_⟩
  ·unfold MSt.top;rw[c]
  ·unfold kX;rw[c]
theorem MacA.popped{K L:Nat->Prop}{w:World}{b:Nat}{s:MSt}{g:Option Addr}{il ic:Nat}{most:Int}{ka:Option Addr}{kc:Nat}{la:Option Addr}{lc j:Nat}(h:MacA K L w b s.nx g il ic most ka kc la lc)(i:s.st.length=j+1):MacA K L (w.setCell ⟨b,4,none⟩ (.slice ka j kc)) b s.pop.nx g il ic most ka kc la lc:=by
 have f:s.pop.nx.st.length=j:=by show s.st.dropLast.length=j;rw[List.length_dropLast];omega
 have d:∀x,x≠b->(w.setCell ⟨b,4,none⟩ (.slice ka j kc)).heap[x]? = w.heap[x]?:=fun x a=>Below.heap_setCell _ _ _ _ a
 refine⟨?_,?_,?_,fun x a=>by rw[uj];exact h.lt x a,h.kl,h.kb,h.lb⟩
 ·rw[f]
  exact (h.c.set4 ka j kc).re rfl rfl rfl rfl rfl rfl rfl
 ·rw[f]
  have e:s.pop.nx.st=s.st.take j:=by show s.st.dropLast=_;rw[List.dropLast_eq_take,i];rfl
  rw[e,qN];have k:=kz h.st (j:=j) (by show j<=s.st.length;omega)
  rw[Nat.mul_one]at k;exact k.on (fun x a=>d x (fun e=>h.kb (e▸a)))
 ·exact h.log.on (fun x a=>d x (fun e=>h.lb (e▸a)))
theorem une{most s}(h:AP most s):(s.pop.st.length:Int)<=most:=by
 have:=h.len;show (s.st.dropLast.length:Int)<=most;rw[List.length_dropLast];omega
theorem uhp{most s}(h:AP most s):s.pop.st.length<=1000:=by
 have:=h.len';show s.st.dropLast.length<=1000;rw[List.length_dropLast];omega
theorem unf{most s}(h:AP most s):∀f,f∈s.pop.st->f.kind≠2->f.log<=s.pop.log.length:=fun f a=>h.last f (List.dropLast_subset _ a)
theorem uld{most s}(h:AP most s):∀f,f∈s.pop.st->f.kind=0\/f.kind=1\/f.kind=2:=fun f a=>h.kinds f (List.dropLast_subset _ a)
theorem upE{s:MSt}{j:Nat}{f:FrD}{a:Bool}(d:s.st.length=j+1)(c:s.st[j]? = some f)(g:(f.kind==1)=false)(h:s.st.any (fun f=>f.kind==1)=a):s.pop.st.any (fun f=>f.kind==1)=a:=by
 have e:s.st=s.st.take j++[f]:=by
  rw[<-kW c,List.take_of_length_le (by omega)]
 have b:s.pop.st=s.st.take j:=by show s.st.dropLast=_;rw[List.dropLast_eq_take,d];rfl
 rw[b,<-h]
 conv=>rhs;rw[e]
 rw[List.any_append];simp[g]
theorem upF K L b s x o p g il ic I most ka kc la lc w(d:MacA K L w b s.nx g il ic most ka kc la lc)(l:AP most s)(m:x.kind=12) :
  Calls Tryz.prog 128 #[.pointer (some ⟨b,0,none⟩),xP x o p] w (ActIs (s.act x il I most) K L b g il ic most w):=by
 have e:=ua d;have j:w.cell? ⟨b,4,none⟩=some (.slice ka s.st.length kc):=d.c.c4;have lb:=d.bl;have k:=l.len';have h:Hid (s.act x il I most=if s.st.length=0 then s.fin 0 else s.fin 4):=by
  show _=_;unfold MSt.act;simp only[m];simp
 obtain⟨n,f⟩:∃n,s.st.length=n:=⟨_,rfl⟩;have i:=ua f;rw[f]at j k;unfold xP;rw[h.out,i.out];by_cases a:n=0
 ·rw[if_pos a]
  subst a;go_enter Tryz.func128,Tryz.ntmps128;go_wp2;go_ret;exact yQ (t:=s.fin 0) (e.later (ui w _)) (Kept.of (ui w _)) rfl ⟨_,_,rfl⟩
 ·rw[if_neg a]
  have h0':(0:Int)<(n:Int):=by omega
  go_enter Tryz.func128,Tryz.ntmps128;go_wp2;go_ret;exact yQ (t:=s.fin 4) (e.later (ui w _)) (Kept.of (ui w _)) rfl ⟨_,_,rfl⟩
theorem uiJ K L b s x y z d il ic I most ka kc la lc w(q:MacA K L w b s.nx d il ic most ka kc la lc)(u:AP most s)(v:x.kind=1) :
  Calls Tryz.prog 119 #[.pointer (some ⟨b,0,none⟩),xP x y z] w (ActIs (s.act x il I most) K L b d il ic most w):=by
 have i:=ua q;have f:=ua u;have m:Hid (s.act x il I most=(s.nx).push ⟨0,x.to,s.pos,s.log.length⟩ most):=by
  show _=_;unfold MSt.act;simp only[v];simp[MSt.hold,MSt.nx]
 obtain⟨A,t⟩:=nm s.nx.inNot;have j:=ua t;rw[m.out];unfold xP;go_enter Tryz.func119,Tryz.ntmps119;go_wp2_with fail;refine (ubC K L b s.nx d il ic most ka kc la lc x.to _ (i.later (ui w _)) f.len').mono ?_;rintro e W ⟨rfl,a⟩;rw[j.out];have g:=ua (i.later (uf (ui w _) a));have n:=ua (uf (ui w _) a);go_wp2_with fail;refine (udO b s.pos s.log.length lc la _ g.c.c3 g.c.c5).mono ?_;rintro e W2 ⟨rfl,a⟩;have l:=ua (g.later a);have o:=ua (uf n a);go_wp2_with fail;refine (ubA K L b s.nx ⟨0,x.to,s.pos,s.log.length⟩ _ _ d il ic most ka kc la lc _ l f.len' f.len f.done (by rw[j.out];unfold frC;simp)).mono ?_
 rintro e p h;obtain⟨r,h⟩:=h;subst r;have k:Hid (ActIs (MSt.push s.nx ⟨0,x.to,s.pos,s.log.length⟩ most) K L b d il ic most _ _ p):=⟨rfl,h⟩;go_wp2;go_ret;exact k.below o
theorem uhq(K L:Nat->Prop)(b:Nat)(s:MSt)(x:ur)(F:Option Addr)(G:Nat)(d:Option Addr)(il ic:Nat)(I:Nat->Int)(most:Int)(ka:Option Addr)(kc:Nat)(la:Option Addr)(lc:Nat)(w:World)(i:MacA K L w b s.nx d il ic most ka kc la lc)(r:AP most s) :
  Calls Tryz.prog 124 #[.pointer (some ⟨b,0,none⟩),xP x F G] w (ActIs (s.enter x most) K L b d il ic most w):=by
 have n:=ua i;have g:=ua r;have lb:=i.bl;have p:w.cell? ⟨b,2,none⟩=some (.int .i64 (s.at_+1)):=i.c.c2;obtain⟨E,q⟩:=nm s.nx.inNot;have o:=ua q;obtain⟨l,m⟩:∃l,s.at_+1=l:=⟨_,rfl⟩;have z:=ua m;rw[m]at p;unfold xP;clear i r q m;go_enter Tryz.func124,Tryz.ntmps124;go_wp2_with fail;refine (ubC K L b s.nx d il ic most ka kc la lc l _ (n.later (ui w _)) g.len').mono ?_;rintro e W ⟨rfl,k⟩;rw[o.out];have f:Hid (MacA K L W b s.nx d il ic most ka kc la lc):=n.later (uf (ui w _) k);have B:Hid (Below w.heap.size w W):=uf (ui w _) k;have H:=ue (a:=⟨w.heap.size,2,none⟩) (v:=.int .i64 x.to) (cN w.heap.size rfl rfl) k;have Q:=ud H;have J:=f.c.c2;have N:=f.c.fz 2;have P:=f.bl;have O:b≠w.heap.size:=by omega
 clear k p;go_wp2_with fail;have t:Hid (MacA K L (W.setCell ⟨b,2,none⟩ (.int .i64 x.to)) b { s with at_:=x.to } d il ic most ka kc la lc):=f.out.put ((Only.refl _ W).set b 2 _ rfl) rfl rfl (f.out.c.set2 x.to)
 have A:Hid (Kept (fun y=>K y\/L y\/y=b) w (W.setCell ⟨b,2,none⟩ (.int .i64 x.to))):=uY (vx (Kept.of B.out) 2 _) (fun y h=>.inr (.inr h))
 refine (ubA K L b { s with at_:=x.to } ⟨2,s.at_+1,0,0⟩ _ _ d il ic most ka kc la lc _ (t.later (ui _ _)) g.len' g.len g.done (by rw[z.out,show ({ s with at_:=x.to }:MSt).inNot=E from o.out];unfold frC;simp)).mono ?_
 rintro e C j;obtain⟨D,j⟩:=j;subst D;have u:Hid (ActIs (MSt.push { s with at_:=x.to } ⟨2,s.at_+1,0,0⟩ most) K L b d il ic most _ _ C):=⟨rfl,j⟩
 clear j;go_wp2;go_ret;exact u.from_ (vm A _)
theorem uf2{K L b s t il ic most ka kc la lc w W}(v:MacA K L w b s.nx t il ic most ka kc la lc)(q:AP most s)(n:Below w.heap.size w W) :
  Calls Tryz.prog 153 #[.pointer (some ⟨b,0,none⟩)] W (fun e V=>∃(A:Option Addr) (f:FrD) (m:Bool),MacA K L V b s.pop.nx t il ic most A kc la lc/\Kept (fun y=>y=b) w V/\(∀y,y≠b->V.heap[y]? = W.heap[y]?)/\(∀k,k<=2->s.top k=(f.kind==k))/\kX s.st=f.to/\(f.kind=9/\e=.returned .nilIface\/(f.kind=0/\s.pop.st.any (fun f=>f.kind==1)=m)/\e=.returned (.iface 213 (.agg #[.int .i64 f.to,.bool m,.int .i64 (f.pos:Int),.int .i64 (f.log:Int)]))\/f.kind=1/\e=.returned (.iface 218 (.agg #[.int .i64 f.to,.bool m,.int .i64 (f.pos:Int),.int .i64 (f.log:Int)]))\/f.kind=2/\e=.returned (.iface 221 (.agg #[.int .i64 f.to,.bool m])))):=by
 have d:=v.later n;have h:=d.c.c4;rcases ulc s with⟨r,p⟩|⟨j,f,i,o,p,x⟩
 ·rw[show s.nx.st.length=0 from r]at h
  refine (ufd b ka kc W h).mono ?_;rintro _ _ ⟨rfl,rfl⟩;have e:s.pop=s:=by have:=List.eq_nil_of_length_eq_zero r;cases s;simp_all[MSt.pop]
  refine⟨ka,⟨9,kX s.st,0,0⟩,false,by rw[e];exact d,Kept.of n,fun _ _=>rfl,fun k a=>?_,rfl,.inl ⟨rfl,rfl⟩⟩
  rw[p];simp;omega
 ·rw[show s.nx.st.length=j+1 from i]at h
  obtain⟨g,rfl,B,C,u⟩:=uhD (l:=s.st) d.st i o;refine (ual b g j kc _ W h (d.c.fz 4) u (by have:=q.len';omega) (by omega)).mono ?_
  rintro _ _ ⟨rfl,rfl⟩;refine⟨_,f,s.st.any (fun f=>f.kind==1),d.popped i,vx (Kept.of n) 4 _,fun y z=>Below.heap_setCell _ _ _ _ z,fun k _=>p k,x,?_⟩
  unfold frC;rcases q.kinds f (List.mem_of_getElem? o) with a | a | a
  ·exact .inr (.inl ⟨⟨a,upE i o (by rw[a];rfl) rfl⟩,by rw[if_pos a]⟩)
  ·exact .inr (.inr (.inl ⟨a,by rw[if_neg (by rw[a];decide),if_pos a]⟩))
  ·exact .inr (.inr (.inr ⟨a,by rw[if_neg (by rw[a];decide),if_neg (by rw[a];decide)]⟩))
theorem uiK K L b s x E F u il ic I most ka kc la lc w(g:MacA K L w b s.nx u il ic most ka kc la lc)(q:AP most s)(j:x.kind=2) :
  Calls Tryz.prog 120 #[.pointer (some ⟨b,0,none⟩),xP x E F] w (ActIs (s.act x il I most) K L b u il ic most w):=by
 have B:=ua g;have A:=ua q;have lb:=g.bl;obtain⟨T,e⟩:=nm (s.act x il I most);rw[e];unfold xP;go_enter Tryz.func120,Tryz.ntmps120;go_wp2_with fail;refine (uf2 B A (ui w _)).mono ?_;rintro _ V ⟨D,f,P,d,n,o,i,r,h⟩;have m:=ua d;have v:=ua n;obtain⟨z,p,l⟩:=((ux w _ 86).blk (o w.heap.size (by omega))).x
 have O:=d.bl;have G:=d.c.c2;have H:=d.c.fz 2;have N:b≠w.heap.size:=by omega
 rcases h with⟨a,rfl⟩|⟨⟨a,J⟩,rfl⟩|⟨a,rfl⟩|⟨a,rfl⟩
 all_goals first
  |have k:Hid (s.fin 4=T):=by show _=_;rw[<-e];simp[MSt.act,j,i,a];done
   clear g q d n o i r e a j;go_wp2;go_ret;rw[<-k.out];exact yQ (t:=s.fin 4) (m.later (ui _ _)) (uY (vm v _) fun y h=>.inr (.inr h)) rfl ⟨_,_,rfl⟩
  |skip
 have k:Hid ({ s.pop with at_:=x.to }=T):=by show _=_;rw[<-e];simp[MSt.act,j,i,a,r]
 clear g q d n o i r e a j;go_wp2;go_ret;rw[<-k.out];have C:MacA K L (V.setCell ⟨b,2,none⟩ (.int .i64 x.to)) b { s.pop with at_:=x.to } u il ic most D kc la lc:=m.put ((Only.refl _ V).set b 2 _ rfl) rfl rfl (m.c.set2 x.to)
 exact uiI (C.later (ui _ _)) (uY (vm (vx v 2 _) _) fun y h=>.inr (.inr h)) A.done
theorem upG K L b s x E F u il ic I most ka kc la lc w(g:MacA K L w b s.nx u il ic most ka kc la lc)(q:AP most s)(j:x.kind=7) :
  Calls Tryz.prog 125 #[.pointer (some ⟨b,0,none⟩),xP x E F] w (ActIs (s.act x il I most) K L b u il ic most w):=by
 have B:=ua g;have A:=ua q;have lb:=g.bl;obtain⟨T,e⟩:=nm (s.act x il I most);rw[e];unfold xP;go_enter Tryz.func125,Tryz.ntmps125;go_wp2_with fail;refine (uf2 B A (ui w _)).mono ?_;rintro _ V ⟨D,f,P,d,n,o,i,r,h⟩;have m:=ua d;have v:=ua n;obtain⟨z,p,l⟩:=((ux w _ 86).blk (o w.heap.size (by omega))).x
 have O:=d.bl;have G:=d.c.c2;have H:=d.c.fz 2;have N:b≠w.heap.size:=by omega
 rcases h with⟨a,rfl⟩|⟨⟨a,J⟩,rfl⟩|⟨a,rfl⟩|⟨a,rfl⟩
 all_goals first
  |have k:Hid (s.fin 4=T):=by show _=_;rw[<-e];simp[MSt.act,j,i,a];done
   clear g q d n o i r e a j;go_wp2;go_ret;rw[<-k.out];exact yQ (t:=s.fin 4) (m.later (ui _ _)) (uY (vm v _) fun y h=>.inr (.inr h)) rfl ⟨_,_,rfl⟩
  |skip
 have k:Hid ({ s.pop with at_:=f.to }=T):=by show _=_;rw[<-e];simp[MSt.act,j,i,a,r]
 clear g q d n o i r e a j;go_wp2;go_ret;rw[<-k.out];have C:MacA K L (V.setCell ⟨b,2,none⟩ (.int .i64 f.to)) b { s.pop with at_:=f.to } u il ic most D kc la lc:=m.put ((Only.refl _ V).set b 2 _ rfl) rfl rfl (m.c.set2 f.to)
 exact uiI (C.later (ui _ _)) (uY (vm (vx v 2 _) _) fun y h=>.inr (.inr h)) A.done
theorem ule K L b s x J N o il ic I most ka kc la lc w(j:MacA K L w b s.nx o il ic most ka kc la lc)(v:AP most s)(n:x.kind=5) :
  Calls Tryz.prog 123 #[.pointer (some ⟨b,0,none⟩),xP x J N] w (ActIs (s.act x il I most) K L b o il ic most w):=by
 have D:=ua j;have g:=ua v;have lb:=j.bl;obtain⟨T,i⟩:=nm (s.act x il I most);rw[i];unfold xP;go_enter Tryz.func123,Tryz.ntmps123;go_wp2_with fail;refine (uf2 D g (ui w _)).mono ?_;rintro _ V ⟨H,f,U,d,r,u,m,C,h⟩;have B:=ua d;have A:=ua r;obtain⟨z,p,l⟩:=((ux w _ 86).blk (u w.heap.size (by omega))).x
 have S:=d.bl;have O:=d.c.c2;have P:=d.c.fz 2;have R:b≠w.heap.size:=by omega
 rcases h with⟨a,rfl⟩|⟨⟨a,Q⟩,rfl⟩|⟨a,rfl⟩|⟨a,rfl⟩
 all_goals first
  |have q:Hid (s.fin 4=T):=by show _=_;rw[<-i];simp[MSt.act,n,m,a];done
   clear j v d r u m C i a n;go_wp2;go_ret;rw[<-q.out];exact yQ (t:=s.fin 4) (B.later (ui _ _)) (uY (vm A _) fun y h=>.inr (.inr h)) rfl ⟨_,_,rfl⟩
  |skip
 have q:Hid (s.pop.fail=T):=by show _=_;rw[<-i];simp[MSt.act,n,m,a]
 clear j v d r u m C i a n;go_wp2_with fail;refine (ju K L b s.pop.nx o il ic most H kc la lc _ (B.later (ui _ _)) (uhp g) g.done (unf g) (uld g)).mono ?_;rintro e F k;obtain⟨G,k⟩:=k;subst G;have E:Hid (ActIs (MSt.fail s.pop.nx) K L b o il ic most _ _ F):=⟨rfl,k⟩;clear k;go_wp2;go_ret;rw[<-q.out];exact (E.from_ (uY (vm A _) (fun y h=>.inr (.inr h)))).fail
theorem uhr K L b s x sa sc i il ic I most ka kc la lc w(A:MacA K L w b s.nx i il ic most ka kc la lc)(O:AP most s)(D:x.kind=3) :
  Calls Tryz.prog 121 #[.pointer (some ⟨b,0,none⟩),xP x sa sc] w (ActIs (s.act x il I most) K L b i il ic most w):=by
 have X:=ua A;have u:=ua O;have lb:=A.bl;obtain⟨T,m⟩:=nm (s.act x il I most);rw[m];unfold xP;go_enter Tryz.func121,Tryz.ntmps121;go_wp2_with fail;refine (uf2 X u (ui w _)).mono ?_;rintro _ V ⟨F,f,W,k,J,N,C,P,h⟩;have j:=ua k;have r:=ua J;obtain⟨z,p,l⟩:=((ux w _ 86).blk (N w.heap.size (by omega))).x
 have lv:=k.bl;have d2:=k.c.c2;have g2:=k.c.fz 2;have ac:b≠w.heap.size:=by omega
 rcases h with⟨g,rfl⟩|⟨⟨g,U⟩,rfl⟩|⟨g,rfl⟩|⟨g,rfl⟩
 all_goals first
  |have G:Hid (s.fin 4=T):=by show _=_;rw[<-m];simp[MSt.act,D,C,g];done
   clear A O k J N C P m g D;go_wp2;go_ret;rw[<-G.out];exact yQ (t:=s.fin 4) (j.later (ui _ _)) (uY (vm r _) fun y h=>.inr (.inr h)) rfl ⟨_,_,rfl⟩
  |skip
 have G:Hid (({ s.pop with at_:=x.to }:MSt).push ⟨0,f.to,s.pos,s.log.length⟩ most=T):=by show _=_;rw[<-m];simp[MSt.act,D,C,g,P]
 have ab:=ua U;clear A O k J N C P m g D U;go_wp2_with fail;refine (udO b s.pos s.log.length lc la _ (j.later (ui _ _)).c.c3 (j.later (ui _ _)).c.c5).mono ?_;rintro e W2 ⟨rfl,d⟩;have n:Hid (MacA K L W2 b s.pop.nx i il ic most F kc la lc):=j.later (uf (ui _ _) d);have Q:Hid (Below V.heap.size V W2):=uf (ui _ _) d;have y0:=ue (a:=⟨V.heap.size,0,none⟩) (v:=.int .i64 f.to) (cN V.heap.size rfl rfl) d;have y1:=ue (a:=⟨V.heap.size,1,none⟩) (v:=.bool W) (cN V.heap.size rfl rfl) d;have y2:=ue (a:=⟨V.heap.size,2,none⟩) (v:=.int .i64 (f.pos:Int)) (cN V.heap.size rfl rfl) d;have y3:=ue (a:=⟨V.heap.size,3,none⟩) (v:=.int .i64 (f.log:Int)) (cN V.heap.size rfl rfl) d;have H:∀o,W2.frozen? ⟨V.heap.size,o,none⟩=false:=fun o=>by
  rw[d.frozen (p:=⟨V.heap.size,o,none⟩) (by simp)]
  exact qf V _ 213 _ _ (by omega) (by simp)
 have q2:=H 2;have q3:=H 3;have x2:=ue (z 2) Q;have ah:w.heap.size<W2.heap.size:=ud x2;have ag:V.heap.size<W2.heap.size:=ud y0;have e2:=n.c.c2;have r2:=n.c.fz 2;have af:=n.bl;have ad:b≠V.heap.size:=by omega
 have ae:w.heap.size≠V.heap.size:=by omega
 clear d H d2 g2 z p;go_wp2_with fail;have Y:Hid (MacA K L (((W2.setCell ⟨V.heap.size,2,none⟩ (.int .i64 (s.pos:Int))).setCell ⟨V.heap.size,3,none⟩ (.int .i64 (s.log.length:Int))).setCell ⟨b,2,none⟩ (.int .i64 x.to)) b { s.pop with at_:=x.to } i il ic most F kc la lc):=by
  have S:∀y,K y\/L y\/y=b->y≠V.heap.size:=fun y E e=>by
   subst e;rcases E with q | q | q
   ·have:=j.lt _ (.inl q);omega
   ·have:=j.lt _ (.inr q);omega
   ·omega
  have R:MacA K L ((W2.setCell ⟨V.heap.size,2,none⟩ (.int .i64 (s.pos:Int))).setCell ⟨V.heap.size,3,none⟩ (.int .i64 (s.log.length:Int))) b s.pop.nx i il ic most F kc la lc:=n.on (fun y E=>(Below.heap_setCell _ _ _ _ (S y E)).trans (Below.heap_setCell _ _ _ _ (S y E))) (by rw[uj,uj];exact Nat.le_refl _)
  exact R.put ((Only.refl _ _).set b 2 _ rfl) rfl rfl (R.c.set2 x.to)
 have aa:Hid (Kept (fun y=>K y\/L y\/y=b) w (((W2.setCell ⟨V.heap.size,2,none⟩ (.int .i64 (s.pos:Int))).setCell ⟨V.heap.size,3,none⟩ (.int .i64 (s.log.length:Int))).setCell ⟨b,2,none⟩ (.int .i64 x.to))):=by
  have h5:Kept (fun y=>y=b) w W2:=yF r (Kept.of Q)
  exact uY (vx ((h5.set _ _ _ (by have:=r.size;omega)).set _ _ _ (by have:=r.size;omega)) 2 _) (fun y h=>.inr (.inr h))
 refine (ubA K L b { s.pop with at_:=x.to } ⟨0,f.to,s.pos,s.log.length⟩ _ _ i il ic most F kc la lc _ Y (uhp u) (une u) u.done (by rw[show ({ s.pop with at_:=x.to }:MSt).inNot=W from ab];unfold frC;simp)).mono ?_
 rintro e W9 B;obtain⟨he,B⟩:=B;subst he;have Z:Hid (ActIs (MSt.push { s.pop with at_:=x.to } ⟨0,f.to,s.pos,s.log.length⟩ most) K L b i il ic most _ _ W9):=⟨rfl,B⟩
 clear B;go_wp2;go_ret;rw[<-G.out];exact Z.from_ aa
theorem ulf K L b s x B C f il ic I most ka kc la lc w(G : MacA K L w b s.nx f il ic most ka kc la lc)(J : AP most s)(Z : s.throws<=1048576)(N : x.kind=8) :
    Calls Tryz.prog 126 #[.pointer (some ⟨b,0,none⟩),xP x B C] w (ActIs (s.act x il I most) K L b f il ic most w):=by
  have o:Hid (MacA K L w b s.nx f il ic most ka kc la lc):=G
  have d:Hid (AP most s):=J
  unfold xP
  have D:Hid (s.act x il I most=if s.inNot then s.fail else if x.to<0 then ({ s with throws:=s.throws+1,label:=x.arg }).fin 2 else ({ s with throws:=s.throws+1 }).enter x most):=by
    show _=_
    unfold MSt.act
    simp only [N]
    simp
  obtain ⟨m,z⟩:∃ m,s.inNot=m:=⟨_,rfl⟩
  have O:Hid (s.nx.inNot=m):=z
  have n:=D.out
  rw [z] at n
  obtain ⟨T,H⟩:∃ T,s.act x il I most=T:=⟨_,rfl⟩
  rw [H] at n ⊢
  have k:Hid (T=if m=true then s.fail else if x.to<0 then ({ s with throws:=s.throws+1,label:=x.arg }).fin 2 else ({ s with throws:=s.throws+1 }).enter x most):=n
  clear G J N z n D H
  go_enter Tryz.func126,Tryz.ntmps126
  go_wp2_with fail
  refine (jT K L b s.nx f il ic most ka kc la lc _ (o.out.later (ui w _)) d.out.len').mono ?_
  rintro e W ⟨rfl,j⟩
  rw [O.out]
  have g:Hid (MacA K L W b s.nx f il ic most ka kc la lc):=o.out.later (uf (ui w _) j)
  have F:Hid (Below w.heap.size w W):=uf (ui w _) j
  have R:=ue (a:=⟨w.heap.size,0,none⟩) (v:=.int .i64 x.kind) (cN w.heap.size rfl rfl) j
  have x1:=ue (a:=⟨w.heap.size,1,none⟩) (v:=.int .i64 x.arg) (cN w.heap.size rfl rfl) j
  have x2:=ue (a:=⟨w.heap.size,2,none⟩) (v:=.int .i64 x.to) (cN w.heap.size rfl rfl) j
  have x3:=ue (a:=⟨w.heap.size,3,none⟩) (v:=.slice B x.sl C) (cN w.heap.size rfl rfl) j
  have lw:w.heap.size<W.heap.size:=ud R
  have U:W.cell? ⟨b,264,none⟩=some (.int .i64 (s.throws:Int)):=g.out.c.c9
  have S:W.cell? ⟨b,265,none⟩=some (.int .i64 s.label):=g.out.c.c10
  have X:=g.out.c.fz 264
  have V:=g.out.c.fz 265
  have aa:=g.out.bl
  have ab:=o.out.bl
  have Y:b≠w.heap.size:=by omega
  clear j
  cases m with
  | true =>
    have l:Hid (T=s.fail):=by show _=_;rw [k.out,if_pos rfl]
    clear k
    go_wp2_with fail
    refine (ju K L b s.nx f il ic most ka kc la lc _ g.out d.out.len' d.out.done d.out.last d.out.kinds).mono ?_
    rintro e r i
    obtain ⟨u,i⟩:=i
    subst u
    have q:Hid (ActIs (MSt.fail s.nx) K L b f il ic most _ _ r):=⟨rfl,i⟩
    clear i
    go_wp2
    go_ret
    rw [l.out]
    exact (q.out.below F.out).fail
  | false =>
    have p:Hid (MacA K L (W.setCell ⟨b,264,none⟩ (.int .i64 ((s.throws:Int)+1))) b (MSt.nx { s with throws:=s.throws+1 }) f il ic most ka kc la lc):=by
      have h:=g.out.put (s':=MSt.nx { s with throws:=s.throws+1 }) ((Only.refl _ W).set b 264 (.int .i64 ((s.throws+1:Nat):Int)) rfl) rfl rfl (g.out.c.set9 (s.throws+1))
      rw [Int.natCast_add,Int.natCast_one] at h
      exact h
    have E:Hid (Kept (fun y=>K y\/L y\/y=b) w (W.setCell ⟨b,264,none⟩ (.int .i64 ((s.throws:Int)+1)))):=uY (vx (Kept.of F.out) 264 _) (fun y h=>.inr (.inr h))
    by_cases A:x.to<0
    · have l:Hid (T=({ s with throws:=s.throws+1,label:=x.arg }:MSt).fin 2):=by show _=_;rw [k.out,if_neg (by decide),if_pos A]
      clear k
      go_wp2
      go_ret
      rw [l.out]
      have P:MacA K L ((W.setCell ⟨b,264,none⟩ (.int .i64 ((s.throws:Int)+1))).setCell ⟨b,265,none⟩ (.int .i64 x.arg)) b (MSt.nx { s with throws:=s.throws+1,label:=x.arg }) f il ic most ka kc la lc:=p.out.put ((Only.refl _ _).set b 265 _ rfl) rfl rfl (p.out.c.set10 x.arg)
      exact yQ (t:=({ s with throws:=s.throws+1,label:=x.arg }:MSt).fin 2) P (yF E.out (uY (vx (xV _ _) 265 _) (fun y h=>.inr (.inr h)))) rfl ⟨_,_,rfl⟩
    · have hto':¬ x.to<0:=A
      have l:Hid (T=MSt.enter { s with throws:=s.throws+1 } x most):=by show _=_;rw [k.out,if_neg (by decide),if_neg A]
      clear k
      have Q:AP most { s with throws:=s.throws+1 }:=⟨d.out.m1,d.out.len,d.out.last,d.out.kinds,d.out.logl,d.out.done⟩
      go_wp2_with fail
      refine (uhq K L b { s with throws:=s.throws+1 } x B C f il ic I most ka kc la lc _ p.out Q).mono ?_
      rintro e r i
      obtain ⟨u,i⟩:=i
      subst u
      have q:Hid (ActIs (MSt.enter { s with throws:=s.throws+1 } x most) K L b f il ic most _ _ r):=⟨rfl,i⟩
      go_wp2
      go_ret
      rw [l.out]
      exact q.from_ E
theorem upH K L b s x g h f il ic I most ka kc la lc w(l : MacA K L w b s.nx f il ic most ka kc la lc)(m : AP most s)(n : x.kind=4) :
    Calls Tryz.prog 122 #[.pointer (some ⟨b,0,none⟩),xP x g h] w (ActIs (s.act x il I most) K L b f il ic most w):=by
  have j:=ua m
  have t:Hid (s.act x il I most=(s.nx).push ⟨1,x.to,s.pos,s.log.length⟩ most):=by
    show _=_
    unfold MSt.act
    simp only [n]
    simp [MSt.hold,MSt.nx]
  rw [t.out]
  unfold xP
  have o:=ua l
  clear l m n
  go_enter Tryz.func122,Tryz.ntmps122
  go_wp2
  have k:=ui w (.cells #[.int .i64 x.kind,.int .i64 x.arg,.int .i64 x.to,.slice g x.sl h] 86)
  have B:(w.alloc (.cells #[.int .i64 x.kind,.int .i64 x.arg,.int .i64 x.to,.slice g x.sl h] 86)).cell? ⟨w.heap.size,2,none⟩=some (.int .i64 x.to):=cN w.heap.size rfl rfl
  generalize w.alloc (.cells #[.int .i64 x.kind,.int .i64 x.arg,.int .i64 x.to,.slice g x.sl h] 86)=X at *
  have u:=ua k
  have i:=ua (o.later k)
  have v:Hid (∀ W,Below X.heap.size X W->W.cell? ⟨w.heap.size,2,none⟩=some (.int .i64 x.to)):=fun W z=>ue B z
  clear k
  go_region_with (first
    | (go_at_call 152
       refine (udO b s.pos s.log.length lc la _ (i.later (Below.refl _ X).drew).c.c3 (i.later (Below.refl _ X).drew).c.c5).mono ?_
       rintro e W ⟨rfl,d⟩
       have y2:=v W (uf (Below.refl _ X).drew d)
       have q:=ua (i.later (uf (Below.refl _ X).drew d))
       have r:=ua (uf (Below.refl _ X).drew d)
       clear d)
    | (go_at_call 150
       refine (ubA K L b s.nx ⟨1,x.to,s.pos,s.log.length⟩ _ _ f il ic most ka kc la lc _ q j.len' j.len j.done (by unfold frC;simp)).mono ?_
       rintro e y a
       obtain ⟨A,a⟩:=a
       subst A
       have p:Hid (ActIs (MSt.push s.nx ⟨1,x.to,s.pos,s.log.length⟩ most) K L b f il ic most _ _ y):=⟨rfl,a⟩
       clear a))
  all_goals
    go_wp2
    go_ret
    exact (p.below r).below u
theorem upI : (Tryz.prog.info? 196).map (fun i=>(i.zero,i.size,i.bytes))=some (some (.agg #[.int .i64 0,.int .i64 0,.int .i64 0]),3,24):=by kernel_rfl
theorem upJ : vG 37 196 3 24:=⟨Tryz.underlying37,⟨_,upI,rfl⟩,by omega⟩
def evO (e : EvD) : Obj:=.cells #[.int .i64 e.kind,.int .i64 e.arg,.int .i64 e.pos] 196
theorem upK (w : World) (e : EvD) : Src Tryz.prog 3 37 (.slice (some ⟨w.heap.size,0,none⟩) 1 1) 1 (evv e) (w.alloc (evO e)):=by
  refine Src.ofSlice (P:=Tryz.prog) _ Tryz.underlying37 ⟨w.heap.size,0,none⟩ 1 1 (evv e) rfl (fun j u a=>?_) (fun u a=>?_)
  · have e':(⟨w.heap.size,0,none⟩:Addr).add j=⟨w.heap.size,j,none⟩:=by
      by_cases b:j=0
      · subst b;simp [Addr.add]
      · simp [Addr.add,b]
    rw [e']
    match j,a with
    | 0,a=>exact cN w.heap.size rfl a
    | 1,a=>exact cN w.heap.size rfl a
    | 2,a=>exact cN w.heap.size rfl a
    | j+3,a=>simp [evv] at a
  · simp [evv] at a
    rcases a with rfl | rfl | rfl <;> rfl
theorem evT {ops : Array Oper} {o : Oper} {a : Act} {w : World} {K : Act->World->Prop} {g : Exit->Act->World->Prop} {E : Prop} (j : o.guard=none) (s x : Operand) (n : o.op = .call { callee:=.builtin .append,args:=#[s,x],argTypes:=#[37,37] })
    {L:Nat->Prop} {w1:World} {v y:Value} {m:Nat} {cs:List Value} {d:EvD} (p:a.eval s=v) (r:a.eval x=y) (t:y = .slice (some ⟨w1.heap.size,0,none⟩) 1 1) (q:w=w1.alloc (evO d)) (h:OwnC L w1 v 3 m cs) (l:∀ b,L b->b<w1.heap.size) (z:m<=4194304)
    (k:∀ w' c e,Hid (OwnC (fun b=>L b\/(w1.alloc (evO d)).heap.size<=b) w' (.slice c (m+1) e) 3 (m+1) (cs ++ evv d))->Hid (Grew (fun b=>L b) (w1.alloc (evO d)) w')->K (a.put o.dst (.slice c (m+1) e)) w'):if Region.wanted o (yielded ops a.tmps)=true then Oper.wp Tryz.prog o a w K g else E:=by
  subst q t
  have b1:=ui w1 (evO d)
  refine ujp j s x 37 37 n p r upJ (h.on (fun b i=>b1.block b (l b i))) (upK w1 d) (by omega) (fun _=>Nat.one_pos) ?_
  intro B w' f u A
  obtain ⟨c,e,rfl⟩:=uk f
  exact k w' c e f u
theorem upL {K L : Nat->Prop} {b : Nat} {s : MSt} {k a : Int} {p : Option Addr} {il ic : Nat} {most : Int} {ka : Option Addr} {kc : Nat} {la : Option Addr} {lc : Nat} {w Y W : World} {i : Option Addr} {l : Nat} (d : MacA K L w b s.nx p il ic most ka kc la lc) (E : s.done=false) (n : Below w.heap.size w Y) (m : Grew (fun x=>L x) Y W)
    (B:OwnC (fun x=>L x\/Y.heap.size<=x) W (.slice i (s.log.length+1) l) 3 (s.log.length+1) (vA s.log ++ evv ⟨k,a,s.pos⟩)) :
    ActIs (s.put k a) K L b p il ic most w (.returned (.int .i64 (-1))) (W.setCell ⟨b,5,none⟩ (.slice i (s.log.length+1) l)):=by
  have D:=d.bl
  have N:=n.size
  have J:=m.size
  have blk:∀ x,x<w.heap.size->¬ L x->W.heap[x]? = w.heap[x]?:=fun x f o=>(m.block x (by omega) o).trans (n.block x f)
  have C:=blk b D d.lb
  refine ⟨by unfold jt;simp [MSt.put,E],s.at_+1,s.st,ka,kc,i,l,K,fun x=>(L x\/Y.heap.size<=x)/\x<W.heap.size,fun _=>⟨rfl,rfl⟩,⟨?_,?_,?_,?_,?_,d.kb,?_⟩,fun x f=>.inl f,?_,?_⟩
  · show MacC _ b _ p il ic most ka s.st.length kc i (s.log ++ [_]).length l
    rw [List.length_append,List.length_singleton]
    have h:=(d.c.on C).set5 i (s.log.length+1) l
    exact h.re rfl rfl rfl rfl rfl rfl rfl
  · exact d.st.on (fun x f=>(Below.heap_setCell _ _ _ _ (fun e=>d.kb (by simp at e;exact e ▸ f))).trans (blk x (d.lt x (.inl f)) (fun q=>d.kl x f q)))
  · show OwnC _ _ (.slice i (s.log ++ [_]).length l) 3 (s.log ++ [_]).length (vA (s.log ++ [_]))
    rw [ucw,List.length_append,List.length_singleton]
    rcases B with ⟨e,_⟩ | ⟨g,cap,e,v,y,z,A,r⟩
    · injection e with _ e2;exact absurd e2 (by omega)
    · have G:g<W.heap.size:=by
        obtain ⟨u,I⟩:=Option.isSome_iff_exists.1 (r 0 (by omega)).1
        exact ud I
      have H:g≠b:=fun e=>by
        subst e
        rcases v with q | q
        · exact d.lb q
        · omega
      have o:(W.setCell ⟨b,5,none⟩ (.slice i (s.log.length+1) l)).heap[g]? = W.heap[g]?:=Below.heap_setCell _ _ _ _ H
      exact .inr ⟨g,cap,e,⟨v,G⟩,y,z,fun j F=>(World.cell?_of_block (a:=⟨g,j,none⟩) o).trans (A j F),r.later o⟩
  · intro x f
    rw [uj]
    rcases f with q | q
    · have:=d.lt x (.inl q);omega
    · exact q.2
  · rintro x h ⟨q | q,_⟩
    · exact d.kl x h q
    · have:=d.lt x (.inl h);omega
  · rintro ⟨q | q,_⟩
    · exact d.lb q
    · omega
  · rintro x ⟨q | q,h⟩
    · exact .inl q
    · exact .inr ⟨by omega,by rw [uj];exact h⟩
  · refine ⟨m.os.trans n.os,m.tape.trans n.tape,m.output.trans n.output,by rw [uj];omega,fun x f t=>(Below.heap_setCell _ _ _ _ (fun e=>t (.inr (.inr e)))).trans (blk x f (fun q=>t (.inr (.inl q))))⟩
theorem qM K L b m kd s x i j u il ic most ka kc la lc w(H : MacA K L w b s.nx u il ic most ka kc la lc)(r : AP most s)(q : w.cell? ⟨m,0,none⟩=some (.int .i64 kd))(J : ¬ L m) :
    Calls Tryz.prog 154 #[.pointer (some ⟨b,0,none⟩),xP x i j,.pointer (some ⟨m,0,none⟩)] w (ActIs (s.put kd x.arg) K L b u il ic most w):=by
  have l:=ua H
  have E:=ua r
  have N:=r.logl
  unfold xP
  go_enter Tryz.func154,Tryz.ntmps154
  go_wp2
  have k:=ui w (.cells #[.int .i64 x.kind,.int .i64 x.arg,.int .i64 x.to,.slice i x.sl j] 86)
  have x1:(w.alloc (.cells #[.int .i64 x.kind,.int .i64 x.arg,.int .i64 x.to,.slice i x.sl j] 86)).cell? ⟨w.heap.size,1,none⟩=some (.int .i64 x.arg):=cN w.heap.size rfl rfl
  have O:(w.alloc (.cells #[.int .i64 x.kind,.int .i64 x.arg,.int .i64 x.to,.slice i x.sl j] 86)).heap.size=w.heap.size+1:=by simp
  generalize w.alloc (.cells #[.int .i64 x.kind,.int .i64 x.arg,.int .i64 x.to,.slice i x.sl j] 86)=X at *
  have F:=ua k
  have f:=ua (l.later k)
  have P:=ue q k
  have c3:=f.c.c3
  have G:X.cell? ⟨b,5,none⟩=some (.slice la s.log.length lc):=f.c.c5
  have Q:=f.bl
  have T:=ud P
  have U:w.heap.size<X.heap.size:=by omega
  obtain ⟨ln,g⟩:∃ ln,s.log.length=ln:=⟨_,rfl⟩
  have B:=ua g
  rw [g] at G N
  have D:Hid (OwnC L X.drew (.slice la ln lc) 3 ln (vA s.log)):=by
    have h:=f.log
    rw [show s.nx.log.length=ln from g] at h
    exact h.on (fun y t=>rfl)
  have C:Hid (∀ y,L y->y<X.drew.heap.size):=fun y t=>f.lt y (.inr t)
  have A:Hid (∀ W o,Grew (fun y=>L y) (X.drew.alloc o) W->W.cell? ⟨b,5,none⟩=some (.slice la ln lc)/\W.frozen? ⟨b,5,none⟩=false):=fun W o I=>by
    have e:=(I.block b (by simp;omega) l.lb).trans (Below.heap_alloc X.drew _ _ Q)
    exact ⟨(World.cell?_of_block (a:=⟨b,5,none⟩) e).trans (by have:=f.c.c5;rw [show s.nx.log.length=ln from g] at this;exact this),(World.frozen?_of_block (a:=⟨b,5,none⟩) e).trans (f.c.fz 5)⟩
  clear q k O g J
  go_region_law (first
    | (refine evT rfl (.tmp 10) (.tmp 19) rfl (w1:=X.drew) (L:=L) (v:=.slice la ln lc) (y:=.slice (some ⟨X.heap.size,0,none⟩) 1 1) (cs:=vA s.log) (d:=⟨kd,x.arg,s.pos⟩) (by simp [Act.eval]) (by simp [Act.eval]) rfl rfl D.out C.out (by omega) ?_
       intro W4 R S z n
       obtain ⟨V,Z⟩:=A W4 _ n))
  all_goals go_goals
  all_goals go_wp2
  all_goals go_ret
  all_goals
    have p:=z
    rw [<- B.out] at p ⊢
    exact (upL (Y:=X.drew.alloc (evO ⟨kd,x.arg,s.pos⟩)) l E.done (uf F (uf (Below.refl _ X).drew (ui X.drew _))) n p)
end Go.Proofs.YtimfigongapdnaaGreat
