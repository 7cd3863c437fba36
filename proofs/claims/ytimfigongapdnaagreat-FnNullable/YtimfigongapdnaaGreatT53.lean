import Derived.Test.YtimfigongapdnaaGreatT52
set_option linter.unusedVariables false
set_option linter.unusedSimpArgs false
set_option maxHeartbeats 40000000
set_option maxRecDepth 100000
namespace Go.Proofs.YtimfigongapdnaaGreat
open Go.RowKit
open M (OpD ug Gr ur)
theorem unG{ι:Type}{F:ι->World}{w}{f:FuncId}{args:Array Value}{n:ι}{v:Bool}(a:Below w.heap.size w (F n))(b:∀W,Below w.heap.size w W->∃n,W=F n)(h:Calls Tryz.prog f args (F n) (xI v (F n))):Calls Tryz.prog f args (F n) λe c=>e=.returned (.bool v)/\∃m,c=F m :=
 h.mono λe W q=>⟨q.1,b W (uf a q.2)⟩
theorem xD(s:MSt)(n:Nat)(S:Nat->Int):(s.note n S).st=s.st:=by unfold MSt.note;split<;>(try split)<;>rfl
theorem uam(s:MSt)(n:Nat)(S:Nat->Int):(s.note n S).log=s.log:=by unfold MSt.note;split<;>(try split)<;>rfl
theorem ub7(s:MSt)(n:Nat)(S:Nat->Int):(s.note n S).done=s.done:=by unfold MSt.note;split<;>(try split)<;>rfl
theorem uj9(s:MSt)(n:Nat)(S:Nat->Int):s.nx.note n S=(s.note n S).nx:=by
 unfold MSt.note;show(if s.far<s.pos then _ else if s.pos=s.far then _ else _)=_;split
 ·rfl
 split<;>rfl
theorem MacA.kept{K L w w' b s s' d il ic most ka kc la lc}(h:MacA K L w b s d il ic most ka kc la lc)(c:Kept (λx=>x=b) w w')(g:s'.st=s.st)(f:s'.log=s.log)(i:MacC w' b s' d il ic most ka s.st.length kc la s.log.length lc):MacA K L w' b s' d il ic most ka kc la lc:=by
 refine⟨by rw[g,f];exact i,?_,?_,λx a=>Nat.lt_of_lt_of_le (h.lt x a) c.size,h.kl,h.kb,h.lb⟩
 ·rw[g];exact h.st.on (λx a=>c.block x (h.lt x (.inl a)) (λe=>h.kb (e▸a)))
 rw[f];exact h.log.on (λx a=>c.block x (h.lt x (.inr a)) (λe=>h.lb (e▸a)))
theorem unH K L Q Q' b s x j p f il ic I most ka kc la lc w(hA:MacA K L w b s.nx f il ic most ka kc la lc)(hp:AP most s)(hx:x.kind=0)(hS:Ints Q .i64 w j x.sl x.set)(ad:x.sl<=1048576)(hI:Ints Q' .u8 w f il I)(hB:Byt il I)(an:il<=1048576)(hq:¬Q b)(ah:∀y,Q y->y<w.heap.size) :
  Calls Tryz.prog 118 #[.pointer (some ⟨b,0,none⟩),xP x j p] w (ActIs (s.act x il I most) K L b f il ic most w):=by
 have HA:=ua hA;have a:Hid (AP most s):=hp;have HS:=ua hS;have HI:=ua hI;have ai:=ua hB;have HQ:=ua hq;have ae:=ua ah;unfold xP;have HE:Hid (s.act x il I most=s.test x.sl x.set il I):=by
  show _=_;unfold MSt.act;simp only[hx];simp
 obtain⟨T,hT⟩:∃T,s.act x il I most=T:=⟨_,rfl⟩;have W:Hid (T=s.test x.sl x.set il I):=by show _=_;rw[<-hT,HE.out]
 rw[hT];clear hA hp hx hS hI hB hq ah hT HE;go_enter Tryz.func118,Tryz.ntmps118;go_wp2;have hX:=ui w (.cells #[.int .i64 x.kind,.int .i64 x.arg,.int .i64 x.to,.slice j x.sl p] 86);have x3:(w.alloc (.cells #[.int .i64 x.kind,.int .i64 x.arg,.int .i64 x.to,.slice j x.sl p] 86)).cell? ⟨w.heap.size,3,none⟩=some (.slice j x.sl p):=cN w.heap.size rfl rfl;generalize w.alloc (.cells #[.int .i64 x.kind,.int .i64 x.arg,.int .i64 x.to,.slice j x.sl p] 86)=X at *;have Y:=ua hX;have R:=ua (HA.later hX);have av:=ud x3;have am:=ua x3;obtain⟨ι,ap,F,N,ac⟩:=uce X;have f3:∀n,(F n).cell? ⟨b,3,none⟩=some (.int .i64 (s.pos:Int)):=λn=>ue R.c.c3 (N n)
 have f0:∀n,(F n).cell? ⟨b,0,none⟩=some (.slice f il ic):=λn=>ue R.c.c0 (N n)
 have g3:∀n,(F n).cell? ⟨w.heap.size,3,none⟩=some (.slice j x.sl p):=λn=>ue x3 (N n)
 have HC:=ua (ac _ (Below.refl _ X).drew);have G:=ua N;have HF':=ua ac;clear N ac hX x3;by_cases Z:s.pos<il
 ·have aq:s.pos<=1048576:=by omega
  obtain⟨m,o,rfl,ao,af⟩:=HI.resolve_left (by omega);have i0:∀n,(F n).cell? ⟨m,o+s.pos,none⟩=some (.int .u8 (I s.pos)):=λn=>ue (ue (af s.pos Z) Y) (G n)
  have aj:=ai s.pos Z;have hlt':(s.pos:Int)<(il:Int):=by omega
  obtain⟨u,hu⟩:=nm (I s.pos);rw[hu]at aj i0;have HU:Hid (I s.pos=u):=hu;obtain⟨hh,ag⟩:=nm (yr x.sl x.set u);have U:Hid (yr x.sl x.set u=hh):=ag;clear hu ag af;refine vv F (by kernel_rfl) (by kernel_rfl) HC ?_;repeat (go_big_quiet_step (first|(go_at_call 146;exact unG (G _) HF' (ull Q j x.sl p x.set u _ ad ((HS.later Y).later (G _))))))
  refine wpQuiet_nil ?_;rintro _ ⟨r,rfl⟩;have E:=g3 r;have O:=G r;have g:=ua (R.later O);have S:Hid (Below w.heap.size w (F r)):=uf Y O;generalize F r=V at *;have al:=ud E;rw[U.out];cases hh with
  |true =>
   have l:Hid (T={ s with pos:=s.pos+1,at_:=s.at_+1 }):=by
    show _=_;rw[W.out];unfold MSt.test;rw[if_pos ⟨Z,by rw[HU.out];exact U.out⟩]
   have d3:V.cell? ⟨b,3,none⟩=some (.int .i64 (s.pos:Int)):=g.out.c.c3;have e3:=g.out.c.fz 3;have au:=g.out.bl;clear W U E;go_wp2;go_ret;rw[l.out];have h3:MacA K L (V.setCell ⟨b,3,none⟩ (.int .i64 ((s.pos:Int)+1))) b { s with pos:=s.pos+1,at_:=s.at_+1 } (some ⟨m,o,none⟩) il ic most ka kc la lc:=by
    have h:=g.out.put (s':={ s with pos:=s.pos+1,at_:=s.at_+1 }) ((Only.refl _ V).set b 3 (.int .i64 ((s.pos+1:Nat):Int)) rfl) rfl rfl (g.out.c.set3 (s.pos+1));rw[Int.natCast_add,Int.natCast_one]at h;exact h
   exact uiI h3 (uY (vx (Kept.of S.out) 3 _) (λy h=>.inr (.inr h))) a.out.done
  |false =>
   have H:Hid (T=(if s.inNot then s else s.note x.sl x.set).fail):=by
    show _=_;rw[W.out];unfold MSt.test;rw[if_neg (λq=>by have:=q.2;rw[HU.out,U.out]at this;cases this)]
   go_wp2_with fail;refine(jT K L b s.nx (some ⟨m,o,none⟩) il ic most ka kc la lc _ g a.len').mono ?_;rintro e V2 ⟨rfl,B⟩;rw[show s.nx.inNot=s.inNot from rfl];have z:=ua (g.later B);have k:=ua (uf S B);have y3:=ue E B;have ak:=ud y3;cases D:s.inNot with
   |true =>
    have l:Hid (T=s.fail):=(by show _=_;rw[H.out,D,if_pos rfl]);clear D;go_wp2_with fail;refine(ju K L b s.nx (some ⟨m,o,none⟩) il ic most ka kc la lc _ z a.len' a.done a.last a.kinds).mono ?_;rintro e A d;obtain⟨C,d⟩:=d;subst C;have t:Hid (ActIs (MSt.fail s.nx) K L b (some ⟨m,o,none⟩) il ic most _ _ A):=⟨rfl,d⟩;clear d;go_wp2;go_ret;rw[l.out];exact(t.below k).fail
   |false =>
    have l:Hid (T=(s.note x.sl x.set).fail):=(by show _=_;rw[H.out,D,if_neg (by decide)]);clear D;go_wp2_with fail;refine(uhx Q b s.nx (some ⟨m,o,none⟩) il ic most ka s.st.length kc la s.log.length lc j x.sl p x.set _ z.c (HS.later k) HQ (λy hy=>Nat.lt_of_lt_of_le (ae y hy) k.size) ad).mono ?_;rintro e J i;obtain⟨v,rfl⟩:=i.val;have aa:Hid (MacA K L J b (MSt.nx (s.note x.sl x.set)) (some ⟨m,o,none⟩) il ic most ka kc la lc):=by
     have P:=i.c;rw[uj9]at P;exact z.kept i.kept (xD _ _ _) (uam _ _ _) P
    have ab:Hid (Kept (λy=>K y\/L y\/y=b) w J):=uY (yF (Kept.of k.out) i.kept) (λy h=>.inr (.inr h));clear i;go_wp2_with fail;refine(ju K L b (MSt.nx (s.note x.sl x.set)) (some ⟨m,o,none⟩) il ic most ka kc la lc _ aa (by rw[show(MSt.nx (s.note x.sl x.set)).st=s.st from xD _ _ _];exact a.len') (by rw[show(MSt.nx (s.note x.sl x.set)).done=s.done from ub7 _ _ _];exact a.done) (by rw[show(MSt.nx (s.note x.sl x.set)).st=s.st from xD _ _ _,show(MSt.nx (s.note x.sl x.set)).log=s.log from uam _ _ _];exact a.last) (by rw[show(MSt.nx (s.note x.sl x.set)).st=s.st from xD _ _ _];exact a.kinds)).mono ?_;rintro e A d;obtain⟨C,d⟩:=d;subst C;have t:Hid (ActIs (MSt.fail (MSt.nx (s.note x.sl x.set))) K L b (some ⟨m,o,none⟩) il ic most _ _ A):=⟨rfl,d⟩;clear d;go_wp2;go_ret;rw[l.out];exact(t.from_ ab).fail
 have hlt':¬(s.pos:Int)<(il:Int):=by omega
 have H:Hid (T=(if s.inNot then s else s.note x.sl x.set).fail):=by
  show _=_;rw[W.out];unfold MSt.test;rw[if_neg (λq=>Z q.1)]
 refine vv F (by kernel_rfl) (by kernel_rfl) HC ?_;repeat (go_big_quiet_step (fail))
 refine wpQuiet_nil ?_;rintro _ ⟨r,rfl⟩;have E:=g3 r;have O:=G r;have g:=ua (R.later O);have S:=ua (uf Y O);generalize F r=V at *;have al:=ud E;go_wp2_with fail;refine(jT K L b s.nx f il ic most ka kc la lc _ g a.len').mono ?_;rintro e V2 ⟨rfl,B⟩;rw[show s.nx.inNot=s.inNot from rfl];have z:=ua (g.later B);have k:=ua (uf S B);have y3:=ue E B;have ak:=ud y3;cases D:s.inNot with
 |true =>
  have l:Hid (T=s.fail):=by show _=_;rw[H.out,D,if_pos rfl]
  go_wp2_with fail;refine(ju K L b s.nx f il ic most ka kc la lc _ z a.len' a.done a.last a.kinds).mono ?_;rintro e A d;obtain⟨C,d⟩:=d;subst C;have t:Hid (ActIs (MSt.fail s.nx) K L b f il ic most _ _ A):=⟨rfl,d⟩;go_wp2;go_ret;rw[l.out];exact(t.below k).fail
 |false =>
  have l:Hid (T=(s.note x.sl x.set).fail):=by show _=_;rw[H.out,D,if_neg (by decide)]
  go_wp2_with fail;refine(uhx Q b s.nx f il ic most ka s.st.length kc la s.log.length lc j x.sl p x.set _ z.c (HS.later k) HQ (λy hy=>Nat.lt_of_lt_of_le (ae y hy) k.size) ad).mono ?_;rintro e J i;obtain⟨v,rfl⟩:=i.val;have aa:Hid (MacA K L J b (MSt.nx (s.note x.sl x.set)) f il ic most ka kc la lc):=by
   have P:=i.c;rw[uj9]at P;exact z.kept i.kept (xD _ _ _) (uam _ _ _) P
  have ab:Hid (Kept (λy=>K y\/L y\/y=b) w J):=uY (yF (Kept.of k.out) i.kept) (λy h=>.inr (.inr h));go_wp2_with fail;refine(ju K L b (MSt.nx (s.note x.sl x.set)) f il ic most ka kc la lc _ aa (by rw[show(MSt.nx (s.note x.sl x.set)).st=s.st from xD _ _ _];exact a.len') (by rw[show(MSt.nx (s.note x.sl x.set)).done=s.done from ub7 _ _ _];exact a.done) (by rw[show(MSt.nx (s.note x.sl x.set)).st=s.st from xD _ _ _,show(MSt.nx (s.note x.sl x.set)).log=s.log from uam _ _ _];exact a.last) (by rw[show(MSt.nx (s.note x.sl x.set)).st=s.st from xD _ _ _];exact a.kinds)).mono ?_;rintro e A d;obtain⟨C,d⟩:=d;subst C;have t:Hid (ActIs (MSt.fail (MSt.nx (s.note x.sl x.set))) K L b f il ic most _ _ A):=⟨rfl,d⟩;go_wp2;go_ret;rw[l.out];exact(t.from_ ab).fail
attribute [local go_sem] udI
theorem unC{most:Int}{s:MSt}(d:s.done=false)(x:ur)(il:Nat)(I:Nat->Int):(s.act x il I most).done=true->0<=(s.act x il I most).code:=by
 have e:∀(s:MSt) (c:Int),0<=c->(s.fin c).done=true->0<=(s.fin c).code:=λs c h _=>h
 have g:∀s:MSt,s.done=false->s.fail.done=true->0<=s.fail.code:=λs h=>by
  unfold MSt.fail;split
  ·exact e _ _ (by decide)
  intro q;have q':=q;rw[h]at q';cases q'
 have l:∀(s:MSt) f,s.done=false->(s.push f most).done=true->0<=(s.push f most).code:=λs f h=>by
  unfold MSt.push;split
  ·exact e _ _ (by decide)
  intro q;have q':=q;rw[h]at q';cases q'
 have j:∀t:MSt,t.done=false->t.done=true->0<=t.code:=λt h q=>by rw[h]at q;cases q
 have k:∀n S,(s.note n S).done=s.done:=λn S=>ub7 _ _ _
 have i:∀(c:Prop) [Decidable c] (a b:MSt),(a.done=true->0<=a.code)->(b.done=true->0<=b.code)->(if c then a else b).done=true->0<=(if c then a else b).code:=λc _ a b m o=>by split<;>assumption
 unfold MSt.act MSt.test;repeat' first|exact j _ d|exact l _ _ d|exact e _ _ (by decide)|exact g _ d|exact g _ (by split;exact d;exact(k _ _).trans d)|refine i _ _ _ ?_ ?_
theorem uj8{most:Int}{s:MSt}(x:ur)(il:Nat)(I:Nat->Int)(h:x.kind<0\/13<=x.kind):s.act x il I most=s.fin 4:=by
 unfold MSt.act;have n:∀k:Int,0<=k->k<13->¬x.kind=k:=λk a b e=>by omega
 simp[n 0 (by decide) (by decide),n 1 (by decide) (by decide),n 2 (by decide) (by decide),n 3 (by decide) (by decide),n 4 (by decide) (by decide),n 5 (by decide) (by decide),n 6 (by decide) (by decide),n 7 (by decide) (by decide),n 8 (by decide) (by decide),n 9 (by decide) (by decide),n 10 (by decide) (by decide),n 11 (by decide) (by decide),n 12 (by decide) (by decide)]
theorem ulo K L Q Q'(b j l m:Nat)s x d(g:Nat)c(il ic:Nat)I(most:Int)ka(kc:Nat)la(lc:Nat)(k:Nat)w(h:MacA K L w b s.nx c il ic most ka kc la lc)(i:AP most s)(D:s.throws<=1048576)(a:x.kind=(k:Int))(n:k<13)(v:Ints Q .i64 w d x.sl x.set)(C:x.sl<=1048576)(u:Ints Q' .u8 w c il I)(t:Byt il I)(z:il<=1048576)(A:¬Q b)(B:∀y,Q y->y<w.heap.size)(p:w.cell? ⟨j,0,none⟩=some (.int .i64 0))(q:w.cell? ⟨l,0,none⟩=some (.int .i64 1))(r:w.cell? ⟨m,0,none⟩=some (.int .i64 2))(o:¬L j/\¬L l/\¬L m) :
  ∃f cap,(uiL j l m)[k]?=some (.func (.func f) #[] cap)/\(∀args w,(callFunc f args).run Tryz.prog w=.ok (.enter f args) w)/\Calls Tryz.prog f (#[.pointer (some ⟨b,0,none⟩),xP x d g]++cap) w (ActIs (s.act x il I most) K L b c il ic most w):=by
 match k,n,a with
 |0,_,a=>exact⟨_,#[],rfl,enters_of Tryz.func118 (by kernel_rfl) rfl,unH K L Q Q' b s x d g c il ic I most ka kc la lc w h i a v C u t z A B⟩
 |1,_,a=>exact⟨_,#[],rfl,enters_of Tryz.func119 (by kernel_rfl) rfl,uiJ K L b s x d g c il ic I most ka kc la lc w h i a⟩
 |2,_,a=>exact⟨_,#[],rfl,enters_of Tryz.func120 (by kernel_rfl) rfl,uiK K L b s x d g c il ic I most ka kc la lc w h i a⟩
 |3,_,a=>exact⟨_,#[],rfl,enters_of Tryz.func121 (by kernel_rfl) rfl,uhr K L b s x d g c il ic I most ka kc la lc w h i a⟩
 |4,_,a=>exact⟨_,#[],rfl,enters_of Tryz.func122 (by kernel_rfl) rfl,upH K L b s x d g c il ic I most ka kc la lc w h i a⟩
 |5,_,a=>exact⟨_,#[],rfl,enters_of Tryz.func123 (by kernel_rfl) rfl,ule K L b s x d g c il ic I most ka kc la lc w h i a⟩
 |6,_,a =>
  refine⟨_,#[],rfl,enters_of Tryz.func124 (by kernel_rfl) rfl,?_⟩;have e:s.act x il I most=s.enter x most:=by unfold MSt.act;simp only[a];simp
  rw[e];exact uhq K L b s x d g c il ic I most ka kc la lc w h i
 |7,_,a=>exact⟨_,#[],rfl,enters_of Tryz.func125 (by kernel_rfl) rfl,upG K L b s x d g c il ic I most ka kc la lc w h i a⟩
 |8,_,a=>exact⟨_,#[],rfl,enters_of Tryz.func126 (by kernel_rfl) rfl,ulf K L b s x d g c il ic I most ka kc la lc w h i D a⟩
 |9,_,a =>
  refine⟨_,#[.pointer (some ⟨j,0,none⟩)],rfl,enters_of Tryz.func154 (by kernel_rfl) rfl,?_⟩;have e:s.act x il I most=s.put 0 x.arg:=by unfold MSt.act;simp only[a];simp
  rw[e];exact qM K L b j 0 s x d g c il ic most ka kc la lc w h i p o.1
 |10,_,a =>
  refine⟨_,#[.pointer (some ⟨l,0,none⟩)],rfl,enters_of Tryz.func154 (by kernel_rfl) rfl,?_⟩;have e:s.act x il I most=s.put 1 x.arg:=by unfold MSt.act;simp only[a];simp
  rw[e];exact qM K L b l 1 s x d g c il ic most ka kc la lc w h i q o.2.1
 |11,_,a =>
  refine⟨_,#[.pointer (some ⟨m,0,none⟩)],rfl,enters_of Tryz.func154 (by kernel_rfl) rfl,?_⟩;have e:s.act x il I most=s.put 2 x.arg:=by unfold MSt.act;simp only[a];simp
  rw[e];exact qM K L b m 2 s x d g c il ic most ka kc la lc w h i r o.2.2
 |12,_,a=>exact⟨_,#[],rfl,enters_of Tryz.func128 (by kernel_rfl) rfl,upF K L b s x d g c il ic I most ka kc la lc w h i a⟩
 |k+13,n,_=>exact absurd n (by omega)
theorem ufc{P:Program}{ops:Array Oper}{o:Oper}{a:Act}{w:World}{K:Act->World->Prop}{d:Exit->Act->World->Prop}{E:Prop}{f:FuncId}{cap:Array Value}(i:∀args w,(callFunc f args).run P w=.ok (.enter f args) w)(k:o.guard=none)(g b c:Operand)(s t:TypeId)
  (m:o.op=.call { callee:=.value g,args:=#[b,c],argTypes:=#[s,t] }) {y1 y2:Value} (j:a.eval g=.func (.func f) #[] cap) (q:a.eval b=y1) (r:a.eval c=y2) (h:Calls P f (#[y1,y2]++cap) w (λe w'=>∃u,e=.returned u/\K (a.put o.dst u) w')):if Region.wanted o (yielded ops a.tmps)=true then Oper.wp P o a w K d else E:=by
 have p:Region.wanted o (yielded ops a.tmps)=true:=by simp[Region.wanted,k]
 rw[if_pos p];have n:(execOp a.eval o).run P w=.ok (.enter f (#[y1,y2]++cap)) w:=by
  unfold execOp;simp only[m,resolve,invoke,Deferred.ofValue,Sem.run_bind,Sem.run_pure,Result.andThen_ok,List.map_toArray,List.map_cons,List.map_nil,q,r,j];simpa using i (#[y1,y2]++cap) w
 unfold Oper.wp;rw[n];refine Calls.mono h ?_;rintro e w' ⟨u,rfl,l⟩;exact l
def ubB(wr:World)(b:Nat):Nat:=match wr.cell? ⟨b,263,none⟩ with|some (.int _ z)=>z.toNat|_=>0
theorem udL{wr b k}(h:wr.cell? ⟨b,263,none⟩=some (.int .i64 (k:Int))):ubB wr b=k:=by unfold ubB;rw[h];simp
structure RnA(w0:World)(t:MSt)(n:Nat)(R:Nat->ur)(il:Nat)(I:Nat->Int)(fuel most:Int)(b:Nat)(ia:Option Addr)(ic:Nat)(s:MSt)(wr:World)(ka:Option Addr)(kc:Nat)(la:Option Addr)(lc:Nat)(K L:Nat->Prop):Prop where
 a:MacA K L wr b s ia il ic most ka kc la lc
 lo:∀x,K x\/L x->w0.heap.size<=x
 kept:Kept (λx=>x=b) w0 wr
 good:Good most s
 st:(s.steps:Int)<=fuel
 thr:s.throws<=s.steps
 ends:Ends n R il I fuel most s t
 nd:s.done=false
def rnI(w0:World)(t:MSt)(n:Nat)(R:Nat->ur)(il:Nat)(I:Nat->Int)(fuel most:Int)(b:Nat)(a:Option Addr)(ic:Nat)(wr:World):Prop :=
 ∃s ka kc la lc,∃K L:Nat->Prop,RnA w0 t n R il I fuel most b a ic s wr ka kc la lc K L
def upQ(t:MSt)(b:Nat)(a:Option Addr)(il ic:Nat)(most:Int)(w:World)(e:Ending)(w':World):Prop :=
 e=.returned (.int .i64 t.code)/\∃z st ka kc la lc,∃K L:Nat->Prop,MacA K L w' b { t with at_:=z,st:=st } a il ic most ka kc la lc/\(∀x,K x\/L x->w.heap.size<=x)/\Kept (λx=>x=b) w w'
theorem uf5{w w0 t n R il I fuel most b g ic s wr W ka kc la lc K L}(h:RnA w0 t n R il I fuel most b g ic s wr ka kc la lc K L)(a:Below w.heap.size w w0){T e}(d:s.next n R il I fuel most=T)(j:T.done=true)(m:ActIs T K L b g il ic most wr e W):upQ t b g il ic most w e W:=by
 have o:t=T:=by
  have i:=h.ends.next h.nd;rw[d]at i;exact i.same j
 subst o;obtain⟨p,z,st,A,B,C,D,k,l,G,u,v,y,c⟩:=m;have E:=a.size;have F:=h.kept.size;refine⟨by rw[p];unfold jt;rw[j];rfl,z,st,A,B,C,D,k,l,u,λx f=>?_,?_⟩
 ·rcases f with q|q
  ·rcases v x q with r|r
   ·have:=h.lo x (.inl r);omega
   have:=r.1;omega
  rcases y x q with r|r
  ·have:=h.lo x (.inr r);omega
  have:=r.1;omega
 refine⟨c.os.trans (h.kept.os.trans a.os),c.tape.trans (h.kept.tape.trans a.tape),c.output.trans (h.kept.output.trans a.output),by have:=c.size;omega,λx f d=>?_⟩;refine(c.block x (by omega) (λq=>?_)).trans ((h.kept.block x (by omega) d).trans (a.block x f));rcases q with q|q|q
 ·have:=h.lo x (.inl q);omega
 ·have:=h.lo x (.inr q);omega
 exact d q
theorem uf6{w0 t n R il I fuel most b k ic s wr W ka kc la lc K L}(h:RnA w0 t n R il I fuel most b k ic s wr ka kc la lc K L){T e}(d:s.next n R il I fuel most=T)(i:T.done=false)(u:T.throws<=T.steps)(p:ActIs T K L b k il ic most wr e W) :
  rnI w0 t n R il I fuel most b k ic W/\fuel.toNat-ubB W b<fuel.toNat-ubB wr b:=by
 obtain⟨G,z,st,A,B,C,D,m,o,v,l,w,y,f⟩:=p;obtain⟨rfl,rfl⟩:=v i;have E:=h.kept.size;have g:=jX (n:=n) (R:=R) (il:=il) (I:=I) (most:=most) h.nd h.st;rw[d]at g;have F:T.steps=s.steps+1:=by
  rcases g.2 with⟨q,_⟩|q
  ·rw[i]at q;cases q
  exact q
 refine⟨⟨T,A,B,C,D,m,o,l,λx j=>?_,?_,d▸ufj h.good,g.1,u,d▸h.ends.next h.nd,i⟩,?_⟩
 ·rcases j with q|q
  ·rcases w x q with r|r
   ·exact h.lo x (.inl r)
   have:=r.1;omega
  rcases y x q with r|r
  ·exact h.lo x (.inr r)
  have:=r.1;omega
 ·refine⟨f.os.trans h.kept.os,f.tape.trans h.kept.tape,f.output.trans h.kept.output,by have:=f.size;omega,λx j d=>?_⟩;refine(f.block x (by omega) (λq=>?_)).trans (h.kept.block x j d);rcases q with q|q|q
  ·have:=h.lo x (.inl q);omega
  ·have:=h.lo x (.inr q);omega
  exact d q
 rw[udL l.c.c8,udL h.a.c.c8];show fuel.toNat-T.steps<fuel.toNat-s.steps;have:=g.1;omega
theorem unE Q Q' b a n c R r il ic I fuel most t w(hA:MacA (λ_=>False) (λ_=>False) w b s0 r il ic most none 0 none 0)(hP:InsA Q w a n R)(hn:n<=1048576)(hI:Ints Q' .u8 w r il I)(hB:Byt il I)(bg:il<=1048576)(hR:ukk n R fuel most)(hE:Ends n R il I fuel most s0 t)(U:¬Q b)(bm:∀y,Q y->y<w.heap.size)(bk:¬Q' b)(bn:∀y,Q' y->y<w.heap.size) :
  Calls Tryz.prog 40 #[.pointer (some ⟨b,0,none⟩),.slice a n c,.int .i64 fuel] w (upQ t b r il ic most w):=by
 have HA:=ua hA;have a6:=ua hP;have HI:=ua hI;have a2:=ua hB;have ah:=ua hR;have a3:=ua hE;have u:Hid ((¬Q b)/\(∀y,Q y->y<w.heap.size)/\(¬Q' b)/\∀y,Q' y->y<w.heap.size):=⟨U,bm,bk,bn⟩;have lb:=hA.bl;have ba:=hR.f0;have bt:=hR.f1;go_enter Tryz.func40,Tryz.ntmps40;go_wp2_with fail;refine(uht _).mono ?_;rintro e W1 bb;obtain⟨⟨k0,k1,k2,rfl,h0,g,i⟩,av⟩:=bb;unfold uiL fnV unk;go_wp2;generalize hX:W1.alloc _=m;have hX':=hX;have l:Hid (Below w.heap.size w m):=hX'▸uf av (ui W1 _);have au:Hid (m.heap[W1.heap.size]?=some (.cells (uiL k0 k1 k2) 139)):=hX'▸yK W1 _ _ rfl;have a5:Hid (m.cell? ⟨k0,0,none⟩=some (.int .i64 0)/\m.cell? ⟨k1,0,none⟩=some (.int .i64 1)/\m.cell? ⟨k2,0,none⟩=some (.int .i64 2)):=hX'▸⟨uA _ h0,uA _ g,uA _ i⟩;have a8:=ua av.size;go_loopw [11] (λ_ wr=>rnI m t n R il I fuel most b r ic wr) (λ_ wr=>fuel.toNat-ubB wr b)
 case atStart =>
  refine⟨s0,none,0,none,0,λ_=>False,λ_=>False,HA.later l,λx H=>(H.elim id id).elim,xV _ _,⟨?_,Nat.le_refl _,λf hf=>?_,List.Pairwise.nil,λf hf=>?_⟩,ba,Nat.le_refl _,a3,rfl⟩
  ·exact ah.m0
  ·simp[s0]at hf
  simp[s0]at hf
 case round =>
  obtain⟨s,ka,kc,la,lc,K,L,C⟩:=hrel;have d:=ua C;have c2:=C.a.c.c2;have c8:=C.a.c.c8;have f2:=C.a.c.fz 2;have f8:=C.a.c.fz 263;have b6:=C.a.bl;have b2:=C.st;have bz:(s.steps:Int)<=50000:=by omega
  have ap:=ua C.nd;have af:Hid (∀(D:Int) (W:World),s.next n R il I fuel most=s.fin D->Below wr.heap.size wr W->upQ t b r il ic most w (.returned (.int .i64 D)) W):=λD W g i =>
   uf5 d l g rfl (yQ (t:=s.fin D) (d.a.later i) (Kept.of i) rfl ⟨_,_,rfl⟩)
  by_cases aa:s.at_<0
  ·have z:Hid (s.next n R il I fuel most=s.fin 4):=(by show _=_;unfold MSt.next;rw[if_pos (.inl aa)]);go_wp2;go_ret;exact af 4 _ z (Below.refl _ _)
  have ha0':¬s.at_<0:=aa;by_cases ab:(n:Int)<=s.at_
  ·have z:Hid (s.next n R il I fuel most=s.fin 4):=(by show _=_;unfold MSt.next;rw[if_pos (.inr ab)]);go_wp2;go_ret;exact af 4 _ z (Below.refl _ _)
  have ha1':¬(n:Int)<=s.at_:=ab;by_cases ad:(s.steps:Int)=fuel
  ·have z:Hid (s.next n R il I fuel most=s.fin 3):=(by show _=_;unfold MSt.next;rw[if_neg (λq=>q.elim aa ab),if_pos ad]);have hfu':((s.steps:Int)==fuel)=true:=(by simp[ad]);go_wp2;go_ret;exact af 3 _ z (Below.refl _ _)
  have hfu':((s.steps:Int)==fuel)=false:=by simp[ad]
  obtain⟨q,U⟩:=Int.eq_ofNat_of_zero_le (show 0<=s.at_ by omega);have az:q<n:=by omega
  have z:Hid (s.next n R il I fuel most=MSt.act { s with steps:=s.steps+1 } (R q) il I most):=by
   unfold MSt.next;rw[if_neg (λq=>q.elim aa ab),if_neg ad,U];rfl
  have aj:=(a6.later l).on (λy p=>d.kept.block y (Nat.lt_of_lt_of_le (u.2.1 y p) l.size) (λe=>u.1 (e▸p)));rcases aj with h0|⟨pb,po,rfl,bj,aj⟩
  ·omega
  obtain⟨p0,p1,p2,F,G,p3,bo⟩:=aj q az;have a7:=ua bo;have bw:pb≠b:=λe=>u.1 (e▸bj)
  have b0:=ah.sets q az;have lp:=ud p0;generalize R q=x at *;have bx:(q:Int)<(n:Int):=by omega
  have a1:=ua U;rw[U]at c2;have d0:decide ((q:Int)<0)=false:=by simp
  have d1:decide ((n:Int)<=(q:Int))=false:=by simp;omega
  have ae:Hid (MacA K L (wr.setCell ⟨b,263,none⟩ (.int .i64 ((s.steps:Int)+1))) b { s with steps:=s.steps+1 } r il ic most ka kc la lc):=by
   have h:=d.a.put (s':={ s with steps:=s.steps+1 }) ((Only.refl _ wr).set b 263 (.int .i64 ((s.steps+1:Nat):Int)) rfl) rfl rfl (d.a.c.set8 (s.steps+1));rw[Int.natCast_add,Int.natCast_one]at h;exact h
  have al:Hid (∀o:Obj,s.next n R il I fuel most=MSt.fin { s with steps:=s.steps+1 } 4->upQ t b r il ic most w (.returned (.int .i64 4)) ((wr.setCell ⟨b,263,none⟩ (.int .i64 ((s.steps:Int)+1))).alloc o)):=λo h =>
   uf5 d l h rfl (yQ (t:=MSt.fin { s with steps:=s.steps+1 } 4) (ae.later (ui _ _)) (uY (vm (vx (xV _ wr) 263 _) _) (λy h=>.inr (.inr h))) rfl ⟨_,_,rfl⟩)
  by_cases ay:x.kind<0
  ·have A:Hid (s.next n R il I fuel most=MSt.fin { s with steps:=s.steps+1 } 4):=(by show _=_;rw[z.out,uj8 x il I (.inl ay)]);go_wp2;go_ret;exact al _ A
  have hk0':¬x.kind<0:=ay;by_cases bh:13<=x.kind
  ·have A:Hid (s.next n R il I fuel most=MSt.fin { s with steps:=s.steps+1 } 4):=(by show _=_;rw[z.out,uj8 x il I (.inr bh)]);go_wp2;go_ret;exact al _ A
  obtain⟨k,hk⟩:=Int.eq_ofNat_of_zero_le (show 0<=x.kind by omega);have bi:k<13:=by omega
  have ao:=ua hk;have a4:=ua bi;rw[hk]at p0;have b5:(k:Int)<13:=by omega
  have e0:decide ((k:Int)<0)=false:=by simp
  have e1:decide (13<=(k:Int))=false:=by simp;omega
  have a0:Hid (MacA K L ((wr.setCell ⟨b,263,none⟩ (.int .i64 ((s.steps:Int)+1))).setCell ⟨b,2,none⟩ (.int .i64 ((q:Int)+1))) b (MSt.nx { s with steps:=s.steps+1 }) r il ic most ka kc la lc):=by
   have h:=ae.put (s':=MSt.nx { s with steps:=s.steps+1 }) ((Only.refl _ _).set b 2 (.int .i64 (s.at_+1)) rfl) rfl rfl (ae.c.set2 (s.at_+1));have e:Value.int .i64 (s.at_+1)=.int .i64 ((q:Int)+1):=(by rw[a1.out]);rw[e]at h;exact h
  have aq:Hid (∀y,y≠b->y<wr.heap.size->((wr.setCell ⟨b,263,none⟩ (.int .i64 ((s.steps:Int)+1))).setCell ⟨b,2,none⟩ (.int .i64 ((q:Int)+1))).heap[y]?=wr.heap[y]?):=λy g i=>(Below.heap_setCell _ _ _ _ g).trans (Below.heap_setCell _ _ _ _ g)
  have N:Hid (Kept (λy=>K y\/L y\/y=b) wr ((wr.setCell ⟨b,263,none⟩ (.int .i64 ((s.steps:Int)+1))).setCell ⟨b,2,none⟩ (.int .i64 ((q:Int)+1)))):=uY (vx (vx (xV _ wr) 263 _) 2 _) (λy h=>.inr (.inr h));have a9:Hid (((wr.setCell ⟨b,263,none⟩ (.int .i64 ((s.steps:Int)+1))).setCell ⟨b,2,none⟩ (.int .i64 ((q:Int)+1))).heap.size=wr.heap.size):=by show _=_;rw[uj,uj]
  go_wp2;generalize (wr.setCell ⟨b,263,none⟩ (.int .i64 ((s.steps:Int)+1))).setCell ⟨b,2,none⟩ (.int .i64 ((q:Int)+1))=Y at *;have bq:Y.heap.size=wr.heap.size:=a9.out;have H:=yK Y (.cells #[.int .i64 (k:Int),.int .i64 x.arg,.int .i64 x.to,.slice F x.sl G] 86) wr.heap.size bq.symm;have B:Hid (Below Y.heap.size Y (Y.alloc (.cells #[.int .i64 (k:Int),.int .i64 x.arg,.int .i64 x.to,.slice F x.sl G] 86))):=ui Y _;have b4:wr.heap.size<(Y.alloc (.cells #[.int .i64 (k:Int),.int .i64 x.arg,.int .i64 x.to,.slice F x.sl G] 86)).heap.size:=by rw[World.size_alloc];omega
  generalize Y.alloc (.cells #[.int .i64 (k:Int),.int .i64 x.arg,.int .i64 x.to,.slice F x.sl G] 86)=X at *;have x0:=ul (j:=0) H rfl;have x1:=ul (j:=1) H rfl;have x2:=ul (j:=2) H rfl;have x3:=ul (j:=3) H rfl;have V:Hid (Kept (λy=>K y\/L y\/y=b) wr X.drew):=ufa ⟨B.out.os.trans N.out.os,B.out.tape.trans N.out.tape,B.out.output.trans N.out.output,Nat.le_trans N.out.size B.out.size,λy g i=>(B.out.block y (by omega)).trans (N.out.block y g i)⟩;have ag:Hid (∀y,y≠b->y<m.heap.size->X.drew.heap[y]?=m.heap[y]?):=λy g i=>(B.out.block y (by have:=d.out.kept.size;omega)).trans ((aq.out y g (by have:=d.out.kept.size;omega)).trans (d.out.kept.block y i g))
  have bs:=(Array.getElem?_eq_some_iff.1 au).1;have bp:W1.heap.size≠b:=λe=>by have:=a8.out;have:=HA.out.bl;omega
  have br:∀y v,m.cell? ⟨y,0,none⟩=some (.int .i64 v)->v<=2->0<=v->y≠b:=λy v g i h3 e=>by
   subst e;have h4:=ue HA.c.c0 l;rw[g]at h4;cases h4
  have ak:∀y v,m.cell? ⟨y,0,none⟩=some (.int .i64 v)->v<=2->0<=v->X.drew.cell? ⟨y,0,none⟩=some (.int .i64 v)/\¬L y:=λy v g i h3=>⟨(World.cell?_of_block (a:=⟨y,0,none⟩) (ag y (br y v g i h3) (ud g))).trans g,λq=>by have h5:=d.lo y (.inr q);have h6:y<m.heap.size:=ud g;omega⟩
  obtain⟨j0,j1,j2⟩:=a5;have g0:=ak k0 0 j0 (by decide) (by decide);have g1:=ak k1 1 j1 (by decide) (by decide);have g2:=ak k2 2 j2 (by decide) (by decide);have bc:AP most { s with steps:=s.steps+1 }:=⟨ah.m1,d.good.len,d.good.last,d.good.kinds,by have:=d.good.logs;show s.log.length<=_;omega,ap⟩;have b3:=d.thr;obtain⟨f,cap,bf,be,ac⟩:=ulo K L Q Q' b k0 k1 k2 { s with steps:=s.steps+1 } x F G r il ic I most ka kc la lc k X.drew ((a0.later B).later (Below.refl _ X).drew) bc (by show s.throws<=_;omega) ao a4
   (a7.out.on (λy p=>(B.out.block y (by have:=u.out.2.1 y p;have:=l.out.size;have:=d.out.kept.size;omega)).trans (aq.out y (λe=>u.out.1 (e▸p)) (by have:=u.out.2.1 y p;have:=l.out.size;have:=d.out.kept.size;omega)))) (by omega)
   ((HI.later l).on (λy p=>ag y (λe=>u.2.2.1 (e▸p)) (Nat.lt_of_lt_of_le (u.2.2.2 y p) l.size))) a2 bg u.1 (λy p=>by have:=u.2.1 y p;have:=l.size;have:=d.kept.size;show y<X.heap.size;omega) g0.1 g1.1 g2.1 ⟨g0.2,g1.2,g2.2⟩
  have tc:=ul (j:=k) (t:=139) ((ag W1.heap.size bp bs).trans au) bf;have b7:=ud tc;obtain⟨T,hT⟩:=nm (MSt.act { s with steps:=s.steps+1 } x il I most);have A:Hid (s.next n R il I fuel most=T):=by show _=_;rw[z.out,hT]
  have ai:Hid (T.throws<=T.steps):=by
   show _<=_;rw[<-hT,ucc];have g:=ud1 (most:=most) (s:={ s with steps:=s.steps+1 }) x il I;have i:({ s with steps:=s.steps+1 }:MSt).throws=s.throws:=rfl;rw[i]at g;show _<=s.steps+1;omega
  have aw:=unC (most:=most) (s:={ s with steps:=s.steps+1 }) ap x il I;rw[hT]at aw ac;unfold xP at ac;rw[ao.out]at ac;have am:=ua ac;have an:=ua be;cases P:T.done with
  |true =>
   have O:=ua P;have bd:=aw P;obtain⟨D,ax⟩:=nm T.code;have Z:Hid (jt T=D):=(by show _=_;unfold jt;rw[P,<-ax];rfl);rw[ax]at bd;have bu:(D != -1)=true:=(by simp;omega);go_region_law (first
    |(refine ufc an rfl (.tmp 63) (.tmp 64) (.tmp 65) 136 86 rfl (f:=f) (cap:=cap) (y1:=.pointer (some ⟨b,0,none⟩)) (y2:=.agg #[.int .i64 (k:Int),.int .i64 x.arg,.int .i64 x.to,.slice F x.sl G]) (by simp[Act.eval]) (by simp[Act.eval]) (by simp[Act.eval]) (am.mono ?_);rintro e W E;obtain⟨S,E⟩:=E;have J:Hid (ActIs T K L b r il ic most X.drew (.returned (.int .i64 (jt T))) W):=⟨rfl,E⟩;rw[Z.out]at S;subst S;refine⟨_,rfl,?_⟩))
   all_goals go_goals
   all_goals go_wp2
   all_goals go_ret
   all_goals
    have h:=J.from_ V;rw[Z.out]at h;exact uf5 d l A O h
  |false =>
   have O:=ua P;have Z:Hid (jt T = -1):=(by show _=_;unfold jt;rw[P];rfl);go_region_law (first
    |(refine ufc an rfl (.tmp 63) (.tmp 64) (.tmp 65) 136 86 rfl (f:=f) (cap:=cap) (y1:=.pointer (some ⟨b,0,none⟩)) (y2:=.agg #[.int .i64 (k:Int),.int .i64 x.arg,.int .i64 x.to,.slice F x.sl G]) (by simp[Act.eval]) (by simp[Act.eval]) (by simp[Act.eval]) (am.mono ?_);rintro e W E;obtain⟨S,E⟩:=E;have J:Hid (ActIs T K L b r il ic most X.drew (.returned (.int .i64 (jt T))) W):=⟨rfl,E⟩;rw[Z.out]at S;subst S;refine⟨_,rfl,?_⟩))
   all_goals go_goals
   all_goals go_wp2
   all_goals go_roundw
   all_goals first
    |exact(uf6 d A O ai (J.from_ V)).2
    |exact(uf6 d A O ai (J.from_ V)).1
    |((repeat apply Exists.intro);exact⟨(uf6 d A O ai (J.from_ V)).1,rfl⟩)
end Go.Proofs.YtimfigongapdnaaGreat
