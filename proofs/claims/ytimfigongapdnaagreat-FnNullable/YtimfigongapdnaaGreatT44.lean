import Derived.Test.YtimfigongapdnaaGreatT43
set_option linter.unusedVariables false
set_option linter.unusedSimpArgs false
set_option maxHeartbeats 40000000
set_option maxRecDepth 100000
namespace Go.Proofs.YtimfigongapdnaaGreat
open Go.RowKit
open M (OpD ug Gr)
theorem qC{P:Program}{ops:Array Oper}{o:Oper}{a:Act}{w:World}{K:Act->World->Prop}{i:Exit->Act->World->Prop}{E:Prop}{f:FuncId}(j:∀args w,(callFunc f args).run P w=.ok (.enter f args) w)(k:o.guard=none)(b c d g:Operand)(v x y z:TypeId)
  (m:o.op=.call { callee:=.value (.func f),args:=#[b,c,d,g],argTypes:=#[v,x,y,z] }) {y1 y2 y3 y4:Value} (q:a.eval b=y1) (r:a.eval c=y2) (s:a.eval d=y3) (t:a.eval g=y4) (h:Calls P f #[y1,y2,y3,y4] w (λe w'=>∃u,e=.returned u/\K (a.put o.dst u) w')):if Region.wanted o (yielded ops a.tmps)=true then Oper.wp P o a w K i else E:=by
 have p:Region.wanted o (yielded ops a.tmps)=true:=by simp[Region.wanted,k]
 rw[if_pos p];have n:(execOp a.eval o).run P w=.ok (.enter f #[y1,y2,y3,y4]) w:=by
  have e:a.eval (.func f)=.func (.func f) #[] #[]:=rfl;unfold execOp;simp only[m,resolve,invoke,Deferred.ofValue,Sem.run_bind,Sem.run_pure,Result.andThen_ok,List.map_toArray,List.map_cons,List.map_nil,q,r,s,t,e];exact j #[y1,y2,y3,y4] w
 unfold Oper.wp;rw[n];refine Calls.mono h ?_;rintro e w' ⟨u,rfl,l⟩;exact l
theorem kN args w:(callFunc 52 args).run Tryz.prog w=.ok (.enter 52 args) w:=by
 simp[callFunc,Tryz.func52,Tryz.f52,go_sem]
theorem uqE{ops:Array Oper}{o:Oper}{a:Act}{W:World}{K:Act->World->Prop}{g:Exit->Act->World->Prop}{E:Prop}{u:Tp}{R j:Nat}{w0:World}(k:o.guard=none)(s x:Operand)(l:o.op=.call { callee:=.builtin .append,args:=#[s,x],argTypes:=#[22,22] }){z y:List Int}{v yv:Value}
  (n:a.eval s=v) (p:a.eval x=yv) (f:BufR u R j w0 z v W) (q:Src Tryz.prog 1 22 yv y.length (y.map (Value.int .u8)) W) (r:z.length+y.length<=16000000) (h:∀c d b,Hid (BufR u R j w0 (z++y) (.slice c (z.length+y.length) d) b)->K (a.put o.dst (.slice c (z.length+y.length) d)) b) :
  if Region.wanted o (yielded ops a.tmps)=true then Oper.wp Tryz.prog o a W K g else E:=by
 refine ubi k s x 22 22 l n p qw f.own q (by omega) ?_;intro w b m i t;have e:=f.grow m i;obtain⟨c,d,rfl⟩:=e.shape;rw[List.length_append]at e ⊢;exact h c d b e
theorem BufR.src{u R j w0 wr z a n c}(h:BufR u R j w0 z (.slice a n c) wr):Src Tryz.prog 1 22 (.slice a n c) z.length (z.map (Value.int .u8)) wr:=by
 obtain⟨d,f,e⟩:=uk h.own;injection e with e1 e2 e3;subst e1 e2 e3;exact udi Tryz.underlying22 h.own (λu b=>by obtain⟨x,_,rfl⟩:=List.mem_map.1 b;rfl)
theorem uo6{nr b q B}(h:M.BodyOK nr b (q+1) B)(c:M.ar (B q).kind=1):0<q/\M.BodyOK nr b q B:=by
 have d:M.dep B (q+1)=M.dep B q+(1-M.ar (B q).kind):=rfl;have a:=h.2.2;rw[d,c]at a;refine⟨?_,λi f=>h.1 i (by omega),λk g=>h.2.1 k (by omega),by omega⟩;rcases Nat.eq_zero_or_pos q with rfl|e
 ·rw[M.dep]at a;omega
 exact e
theorem ug0{nr a q B}(h:M.BodyOK nr a (q+1) B)(c:M.ar (B q).kind=2):∃s,0<s/\s<q/\M.dep B s+1=M.dep B q/\(∀j,s<j->j<=q->M.dep B q<=M.dep B j)/\M.BodyOK nr a s B/\M.BodyOK nr a (q-s) (λi=>B (s+i)):=by
 obtain⟨s,_,_,f,n,_,_,_,d,b⟩:=ua9 (λ_ _ _=>()) B q 0 _ h.2.1 c (uax _ B (q+1) h.2);have l:M.dep B (q+1)=M.dep B q+(1-M.ar (B q).kind):=rfl;have g:=h.2.2;rw[l,c]at g;refine⟨s,f,n,d,b,⟨λi m=>h.1 i (by omega),λk p=>h.2.1 k (by omega),by omega⟩,λi m=>h.1 (s+i) (by omega),λj o=>?_,?_⟩
 ·rw[xX];have e:M.dep B (s+j+1)=M.dep B (s+j)+(1-M.ar (B (s+j)).kind):=rfl;have:=b (s+j+1) (by omega) (by omega);show M.ar (B (s+j)).kind<=_;omega
 rw[xX,show s+(q-s)=q by omega];omega
theorem OpsA.part{Q:Nat->Prop}{w}{b off n:Nat}{B:Nat->OpD}(a:Q b)(h:∀i,i<n->OpC Q w b (off+i*3) (B i))(s m:Nat)(d:s+m<=n):OpsA Q w (some ⟨b,off+s*3,none⟩) m (λi=>B (s+i)) :=
 .inr ⟨b,_,rfl,a,λi c=>by rw[show off+s*3+i*3=off+(s+i)*3 by omega];exact h (s+i) (by omega)⟩
def ByL(z:List Int):Prop:=∀x,x∈z->0<=x/\x<=255
theorem ByL.app{a b}(h:ByL a)(k:ByL b):ByL (a++b):=λx c=>(List.mem_append.1 c).elim (h x) (k x)
def SaC(t:Tp)(g:Gr)(d n:Nat)(B:Nat->OpD)(i:Nat)(z:List Int)(j:Nat):Prop :=
 (z.length<=3 ^ d/\ByL z)/\∀(R:Nat) (Q:Nat->Prop) (H:Nat) (b la:Option Addr) (f lc:Nat) (a:Option Addr) (c:Nat) (w:World),GR Q R H b la g w->OpsA Q w a n B->n<=c->RdA t R w i ->
  Calls Tryz.prog 52 #[.agg #[.slice b g.nr f,.slice la g.nb lc],.slice a n c,.pointer (some ⟨R,0,none⟩),.int .i64 (d:Int)] w (λe w'=>∃v,e=.returned v/\BufR t R j w z v w')
def ueq(n:Nat)(S:Nat->Int)(c:Nat):Int×Int :=
 if (if c%3=1 then S (n-2) else S 0)<97/\99<(if c%3=1 then S (n-1) else S 1) then (97,100) else (if c%3=1 then S (n-2) else S 0,if c%3=1 then S (n-1) else S 1)
def ufH(p:Int×Int)(c:Nat):Int:=p.1+(c:Int)%(p.2-p.1+1)
theorem uo7{n S}(a:M.Canon n S)(o:0<n)c:0<=ufH (ueq n S c) c/\ufH (ueq n S c) c<=255:=by
 have q:=a.1;have g:=a.2 0 (by omega);have b:=a.2 1 (by omega);have i:=a.2 (n-2) (by omega);have d:=a.2 (n-1) (by omega);have g4:S 0<=S 1:=b.2.2.1 (by omega);have j:=d.2.2.1 (by omega);rw[show n-1-1=n-2 by omega]at j;have m:0<=(ueq n S c).1/\(ueq n S c).1<=(ueq n S c).2/\(ueq n S c).2<=255:=by
  have:=g.1;have:=b.2.1;have:=i.1;have:=d.2.1;obtain⟨l,f⟩:=nm (if c%3=1 then S (n-2) else S 0);obtain⟨h,e⟩:=nm (if c%3=1 then S (n-1) else S 1);have k:0<=l/\l<=h/\h<=255:=by rw[<-f,<-e];split<;>omega
  unfold ueq;rw[f,e];split
  ·decide
  exact k
 generalize ueq n S c=p at m;have:=Int.emod_nonneg (c:Int) (show p.2-p.1+1≠0 by omega);have:=Int.emod_lt_of_pos (c:Int) (show 0<p.2-p.1+1 by omega);unfold ufH;omega
inductive KS(t:Tp)(g:Gr)(d q:Nat)(B:Nat->OpD)(i:Nat)(z:List Int)(j:Nat):Prop
 |nil:((B q).kind=0\/(B q).kind=7\/((B q).kind=1/\(B q).sl=0))->z = []->j=i->KS t g d q B i z j
 |set:(B q).kind=1->0<(B q).sl->z = [ufH (ueq (B q).sl (B q).set (t.v i)) (t.v i)]->j=t.n i->KS t g d q B i z j
 |ref (k:Nat):(B q).kind=2->(B q).arg=(k:Int)->k<g.nr->SaC t g d (g.rule k).bl (g.rule k).body i z j->KS t g d q B i z j
 |thr (k:Nat):(B q).kind=3->(B q).arg=(k:Int)->k<g.nb->SaC t g d (g.lab k).bl (g.lab k).body i z j->KS t g d q B i z j
 |star (f:Nat->List Int×Nat):(B q).kind=6->0<q->f 0=([],t.n i)->(∀k,∃y,SaC t g ((d+1) / 2) q B (f k).2 y (f (k+1)).2/\(f (k+1)).1=(f k).1++y)->(z,j)=f (t.v i%4)->KS t g d q B i z j
 |seq (s jx:Nat) (x y:List Int):(B q).kind=4->0<s->s<q->M.dep B s+1=M.dep B q->(∀j,s<j->j<=q->M.dep B q<=M.dep B j)->SaC t g d s B i x jx->SaC t g d (q-s) (λi=>B (s+i)) jx y j->z=x++y->KS t g d q B i z j
 |alt (s:Nat):(B q).kind=5->0<s->s<q->M.dep B s+1=M.dep B q->(∀j,s<j->j<=q->M.dep B q<=M.dep B j)->(t.v i%2=0/\SaC t g d s B (t.n i) z j\/t.v i%2≠0/\SaC t g d (q-s) (λi=>B (s+i)) (t.n i) z j)->KS t g d q B i z j
theorem usN t{g}(f:M.Sound g)d q i{B}(m:M.BodyOK g.nr g.nb (q+1) B)(W:q+1<=2000)(b:∀H,H<d+1->∀n B i,(n=0\/M.BodyOK g.nr g.nb n B)->n<=2000->∃p:List Int×Nat,SaC t g H n B i p.1 p.2):∃z j,(z.length<=3 ^ (d+1)/\ByL z)/\KS t g d q B i z j:=by
 have P:=m.1 q (by omega);obtain⟨X,Y,S,_,V,Q⟩:=P;have w:ByL []:=λx E=>by cases E
 have p1:1<=3 ^ d:=Nat.one_le_pow _ _ (by omega);have p2:3 ^ (d+1)=3*3 ^ d:=by rw[Nat.pow_succ,Nat.mul_comm]
 have G:=Q;unfold M.most at G;rcases(by omega:((B q).kind=0\/(B q).kind=7)\/(B q).kind=1\/(B q).kind=2\/(B q).kind=3\/(B q).kind=6\/(B q).kind=4\/(B q).kind=5) with e|e|e|e|e|e|e
 ·exact⟨[],i,⟨Nat.zero_le _,w⟩,.nil (by omega) rfl rfl⟩
 ·by_cases c:(B q).sl=0
  ·exact⟨[],i,⟨Nat.zero_le _,w⟩,.nil (.inr (.inr ⟨e,c⟩)) rfl rfl⟩
  exact⟨_,_,⟨by simp;omega,λx E=>by obtain rfl:=List.mem_singleton.1 E;exact uo7 (S e) (by omega) _⟩,.set e (by omega) rfl rfl⟩
 ·rw[if_neg (by omega),if_pos e]at G;obtain⟨k,C⟩:∃k:Nat,(B q).arg=(k:Int):=⟨(B q).arg.toNat,by omega⟩;obtain⟨p,a⟩:=b d (by omega) _ _ i (.inr (f.rb k (by omega))) (jV f (show k<g.nr by omega));exact⟨p.1,p.2,⟨by have:=a.1.1;omega,a.1.2⟩,.ref k e C (by omega) a⟩
 ·rw[if_pos e]at G;obtain⟨k,C⟩:∃k:Nat,(B q).arg=(k:Int):=⟨(B q).arg.toNat,by omega⟩;have A:(g.lab k).bl=0\/M.BodyOK g.nr g.nb (g.lab k).bl (g.lab k).body:=by
   cases J:(g.lab k).has with
   |true=>exact .inr (f.lb k (by omega) J)
   |false=>exact .inl (f.lz k (by omega) J)
  obtain⟨p,a⟩:=b d (by omega) _ _ i A (qT f (show k<g.nb by omega));exact⟨p.1,p.2,⟨by have:=a.1.1;omega,a.1.2⟩,.thr k e C (by omega) a⟩
 ·obtain⟨U,A⟩:=uo6 m (by simp[M.ar,e]);obtain⟨F,y⟩:=Classical.axiomOfChoice (λi=>b ((d+1) / 2) (by omega) q B i (.inr A) (by omega));have T:∀k,((Nat.rec ([],t.n i) (λ_ p=>(p.1++(F p.2).1,(F p.2).2)) k:List Int×Nat)).1.length<=k*3 ^ ((d+1) / 2):=λk=>by
   induction k with
   |zero=>exact Nat.zero_le _
   |succ k L =>
    have:=(y ((Nat.rec ([],t.n i) (λ_ p=>(p.1++(F p.2).1,(F p.2).2)) k:List Int×Nat)).2).1.1;show(_++_:List Int).length<=_;rw[List.length_append,Nat.succ_mul];omega
  have R:∀k,ByL ((Nat.rec ([],t.n i) (λ_ p=>(p.1++(F p.2).1,(F p.2).2)) k:List Int×Nat)).1:=λk=>by
   induction k with
   |zero=>exact w
   |succ k L=>exact L.app (y _).1.2
  refine⟨_,_,⟨?_,R _⟩,.star (λk=>Nat.rec ([],t.n i) (λ_ p=>(p.1++(F p.2).1,(F p.2).2)) k) e U rfl (λk=>⟨_,y _,rfl⟩) rfl⟩;refine Nat.le_trans (T _) ?_;have N:3 ^ ((d+1) / 2)<=3 ^ d:=Nat.pow_le_pow_right (by omega) (by omega);have O:t.v i%4<=3:=by omega
  rw[p2];exact Nat.mul_le_mul O N
 ·obtain⟨s,c,o,h,l,b1,u⟩:=ug0 m (by simp[M.ar,e]);obtain⟨p,a⟩:=b d (by omega) s B i (.inr b1) (by omega);obtain⟨r,D⟩:=b d (by omega) (q-s) _ p.2 (.inr u) (by omega);exact⟨_,r.2,⟨by have:=a.1.1;have:=D.1.1;rw[List.length_append];omega,a.1.2.app D.1.2⟩,.seq s p.2 p.1 r.1 e c o h l a D rfl⟩
 obtain⟨s,c,o,h,l,b1,u⟩:=ug0 m (by simp[M.ar,e]);by_cases I:t.v i%2=0
 ·obtain⟨p,a⟩:=b d (by omega) s B (t.n i) (.inr b1) (by omega);exact⟨p.1,p.2,⟨by have:=a.1.1;omega,a.1.2⟩,.alt s e c o h l (.inl ⟨I,a⟩)⟩
 obtain⟨p,a⟩:=b d (by omega) (q-s) _ (t.n i) (.inr u) (by omega);exact⟨p.1,p.2,⟨by have:=a.1.1;omega,a.1.2⟩,.alt s e c o h l (.inr ⟨I,a⟩)⟩
theorem udj{t R j w w0 W z v}(a:Keep (λ_=>False) w w0)(c:R<w.heap.size)(h:BufR t R j w0 z v W):BufR t R j w z v W :=
 ⟨jw h.own (λb q=>Nat.le_trans a.size q),⟨h.on.1,(a.mono (λ_ e=>e.elim)).trans h.on.2⟩,c⟩
theorem ucU{t R i j w w0 W z v}(a:RdOn t R i w w0)(c:R<w.heap.size)(h:BufR t R j w0 z v W):BufR t R j w z v W :=
 ⟨jw h.own (λb q=>Nat.le_trans a.2.size q),⟨h.on.1,a.2.trans h.on.2⟩,c⟩
theorem ug1{t R j w W}(h:RdOn t R j w W)(b:R<w.heap.size)x:BufR t R j w [x] (.slice (some ⟨W.heap.size,0,none⟩) 1 1) (W.alloc (.cells #[.int .u8 x] 5)):=by
 refine⟨.inr ⟨W.heap.size,1,rfl,h.2.size,rfl,Nat.le_refl _,λj a=>?_,λj a=>?_⟩,h.quiet (Keep.alloc _ _ _),b⟩
 ·obtain rfl:j=0:=by simp at a;omega
  obtain⟨z,_,_⟩:=(ux W #[.int .u8 x] 5).x;exact z 0
 obtain rfl:j=0:=by omega
 obtain⟨z,p,_⟩:=(ux W #[.int .u8 x] 5).x;exact⟨by rw[z 0];rfl,p 0⟩
theorem ug2 t{g}d q i{B}(hb:M.BodyOK g.nr g.nb (q+1) B)(hq:q+1<=2000)(hd:d+1<=14)(hV:M.Sound g)z j(hk:KS t g d q B i z j)R Q H E la u lc a c w(hG:GR Q R H E la g w)(hA:OpsA Q w a (q+1) B)(hc:q+1<=c)(hR:RdA t R w i) :
  Calls Tryz.prog 52 #[.agg #[.slice E g.nr u,.slice la g.nb lc],.slice a (q+1) c,.pointer (some ⟨R,0,none⟩),.int .i64 ((d+1:Nat):Int)] w (λe w'=>∃v,e=.returned v/\BufR t R j w z v w'):=by
 have V:=hR.lt;have r1:=hV.r2;have r2:=hV.l2;rcases hA with e|⟨b,off,rfl,I,l⟩
 ·cases e
 obtain⟨c0,⟨sa,sc,c1,a8⟩,c2⟩:=l q (by omega);have bw:=ud c0;have x3:(q:Int)<((q+1:Nat):Int):=by omega
 have HE:=ua (hb.1 q (by omega));have F:=ua hG;have HK:=ua hk;have HQ:=ua hG.q;have J:=ua l;have aq:=ua a8;have bg:((d+1:Nat):Int)-1=(d:Int):=by omega
 have bf:¬((d+1:Nat):Int)<=0:=by omega
 obtain⟨d1,av⟩:=nm (d+1);have zd:=uz d (by omega);have hd1':(d1:Int)-1=(d:Int):=by omega
 have hd0':¬(d1:Int)<=0:=by omega
 have bh:(d1:Int) / 2=((d1 / 2:Nat):Int):=by omega
 rw[av];have ag:w.heap.size≠R:=by omega
 have br:w.heap.size+1≠R:=by omega
 have K0:=ua (((Keep.alloc (λ_=>False) w (.cells #[.slice E g.nr u,.slice la g.nb lc] 28))).trans (Keep.alloc _ _ (.cells #[.int .i64 (B q).kind,.slice sa (B q).sl sc,.int .i64 (B q).arg] 118)));have X:=ua ((ux w #[.slice E g.nr u,.slice la g.nb lc] 28).al (.cells #[.int .i64 (B q).kind,.slice sa (B q).sl sc,.int .i64 (B q).arg] 118));have BO:=ua (yG (w.alloc (.cells #[.slice E g.nr u,.slice la g.nb lc] 28)) #[.int .i64 (B q).kind,.slice sa (B q).sl sc,.int .i64 (B q).arg] 118 (w.heap.size+1) (by simp));have o:=ua hR;have am:=ua av;clear hG hk hb l a8 hR bg bf av;go_enter Tryz.func52,Tryz.ntmps52;go_upto_region 5 with fail;generalize (w.alloc (.cells #[.slice E g.nr u,.slice la g.nb lc] 28)).alloc _=Y at *;replace o:=ua (RdOn.quiet (RdOn.refl o) K0);replace F:=ua (F.keep o.2);replace J:Hid (∀i,i<q+1->OpC Q Y b (off+i*3) (B i)):=λi P=>(J i P).kept I K0 (λ_ _ e=>e)
 replace aq:=ua (aq.kept K0 (λ_ _ e=>e));clear c0 c1 c2;obtain⟨z0,p0,D⟩:=X.x;obtain⟨N,p1,l1⟩:=BO.out.x;have bd:=HK.out;clear HK;cases bd with
 |nil e Z ej =>
  subst Z ej;rcases e with e|e|⟨e,es⟩
  ·rw[e]at N;go_wp2;go_ret;exact⟨_,rfl,.nil o.out V⟩
  ·rw[e]at N;go_wp2;go_ret;exact⟨_,rfl,.nil o.out V⟩
  rw[e,es]at N;go_wp2;go_ret;exact⟨_,rfl,.nil o.out V⟩
 |set e es Z ej =>
  have hC:=HE.out.2.2.1 e;have hv:=t.v_le i;obtain⟨sb,so,rfl,bp,af⟩:=aq.out.resolve_left (by omega);have bk:2<=(B q).sl:=by have:=hC.1;omega
  have u0:World.cell? _ ⟨sb,so,none⟩=_:=af 0 (by omega);have u1:=af 1 (by omega);have u2:=af ((B q).sl-2) (by omega);have u3:=af ((B q).sl-1) (by omega);have g0:=hC.2 0 (by omega);have g1:=hC.2 1 (by omega);have g2:=hC.2 ((B q).sl-2) (by omega);have g3:=hC.2 ((B q).sl-1) (by omega);have ah:=(HQ.out sb bp).1;have g4:=g1.2.2.1 (by omega);have g5:=g3.2.2.1 (by have:=hC.1;omega);rw[show(B q).sl-1-1=(B q).sl-2 by omega]at g5;replace g0:=g0.1;replace g1:=g1.2.1;replace g2:=g2.1;replace g3:=g3.2.1;have T:=ua Z;unfold ueq at T;obtain⟨m,hm⟩:=nm (t.v i%3);rw[hm]at T;have hm':(t.v i:Int)%3=(m:Int):=by omega
  have y2:((B q).sl:Int)-2=(((B q).sl-2:Nat):Int):=by omega
  have y3:((B q).sl:Int)-1=(((B q).sl-1:Nat):Int):=by omega
  have b2:(1:Int)<((B q).sl:Int):=by omega
  have bz:(0:Int)<((B q).sl:Int):=by omega
  have b5:0<(B q).sl:=es;have b6:1<(B q).sl:=by omega
  have b7:=M.canon_len hC;rw[e]at N BO;subst ej;generalize (B q).set 0=A at *;generalize (B q).set 1=A1 at *;generalize (B q).set ((B q).sl-2)=C at *;generalize (B q).set ((B q).sl-1)=C1 at *;generalize (B q).sl=n at *;obtain⟨n2,a6⟩:=nm (n-2);obtain⟨n1,a4⟩:=nm (n-1);rw[a6]at u2 y2;rw[a4]at u3 y3;have bu:(n2:Int)<(n:Int):=by omega
  have bt:(n1:Int)<(n:Int):=by omega
  clear hC af Z hm a6 a4 bk;go_wp2_with fail;refine(uw t R i Y o.out.1).mono ?_;rintro e W1 ⟨rfl,r⟩;replace o:=ua (o.out.trans r);replace BO:=ua (BO.out.keepR r.2 br);replace u0:=r.2.cell' ah u0;replace u1:=r.2.cell' ah u1;replace u2:=r.2.cell' ah u2;replace u3:=r.2.cell' ah u3;have ca:=ud u0;clear N p1 l1 z0 p0 r;obtain⟨N,p1,l1⟩:=BO.out.x;generalize t.v i=k at *;obtain⟨D,ak⟩:=nm (if m=1 then C else A);obtain⟨O,ai⟩:=nm (if m=1 then C1 else A1);rw[ak,ai]at T;have ay:0<=D/\D<=O/\O<=255:=by
   rw[<-ak,<-ai];split<;>omega
  have HH:Hid ((if m=1 then C else A)=D/\(if m=1 then C1 else A1)=O):=⟨ak,ai⟩;clear ak ai;go_upto_if 53 with fail;simp only[hm'];go_cut [12,13] (λx y wc=>x=.int .i64 D/\y=.int .i64 O/\wc=W1)
  case first =>
   by_cases U:m=1
   ·have b1:((m:Int)==1)=true:=(by simp[U]);rw[if_pos U,if_pos U]at HH;clear U;go_wp2;go_meet;exact⟨by rw[HH.out.1],by rw[HH.out.2],rfl⟩
   have b1:((m:Int)==1)=false:=(by simp;omega);rw[if_neg U,if_neg U]at HH;clear U;go_wp2;go_meet;exact⟨by rw[HH.out.1],by rw[HH.out.2],rfl⟩
  case rest =>
   obtain⟨rfl,rfl,hw⟩:=hcut;subst hw;clear hm' N p1 u0 u1 u2 u3;have fin:∀p:Int×Int,0<=p.1->p.1<=p.2->p.2<=255->0<=ufH p k/\ufH p k<=255:=λp h1 h2 h3=>by
    have:=Int.emod_nonneg (k:Int) (show p.2-p.1+1≠0 by omega);have:=Int.emod_lt_of_pos (k:Int) (show 0<p.2-p.1+1 by omega);unfold ufH;omega
   by_cases U:D<97/\99<O
   ·obtain⟨U,q2⟩:=U;rw[if_pos ⟨U,q2⟩]at T;have hx:=fin (97,100) (by decide) (by decide) (by decide);unfold ufH at T hx;clear fin;go_wp2;go_ret;rw[T.out];exact⟨_,rfl,ug1 o V _⟩
   rw[if_neg U]at T;have hx:=fin (D,O) ay.1 ay.2.1 ay.2.2;unfold ufH at T hx;have b9:¬O-D+1=0:=(by omega);clear fin;rcases(by omega:¬D<97\/(D<97/\¬99<O)) with q2|⟨q2,q3⟩;all_goals
    go_wp2;go_ret;rw[T.out];dsimp only at hx ⊢;generalize D+(k:Int)%(O-D+1)=x at *;rw[show wrap64 x%256=x by unfold wrap64;omega];exact⟨_,rfl,ug1 o V _⟩
 |ref k e ea hk G =>
  have HS:=ua G.2;rw[e,ea]at N;rcases F.g.rules with q0|⟨rb,ro,rfl,bo,hL⟩
  ·omega
  obtain⟨na,nc,ba,bc,v0,hn,v1,ad,ae⟩:=(hL k hk).body_cap;have lb:=ud v1;have hk':(k:Int)<(g.nr:Int):=by omega
  have S:=ua (HS R Q H _ la u lc ba bc Y.drew (F.keep (Keep.drew _ _)) (ad.kept (Keep.drew (λ_=>False) _) (λ_ _ e=>e)) ae (o.1.keep (Keep.drew (λ_=>False) _) (λ_ e=>e.elim)));clear G hL hn v0 ad ae;go_wp2_with fail;go_region_law (refine qC kN rfl (.tmp 89) (.tmp 96) (.tmp 97) (.tmp 99) 28 68 42 3 rfl (y1:=.agg #[.slice (some ⟨rb,ro,none⟩) g.nr u,.slice la g.nb lc]) (y2:=.slice ba (g.rule k).bl bc) (y3:=.pointer (some ⟨R,0,none⟩)) (y4:=.int .i64 (d:Int)) (by simp[Act.eval]) (by simp[Act.eval]) (by simp[Act.eval]) (by simp[Act.eval]) (S.out.mono ?_);rintro e W2 ⟨v,rfl,l⟩;have L:=ua (udj (K0.out.trans (Keep.drew _ _)) V l);clear l;refine⟨_,rfl,?_⟩);all_goals
   go_wp2;go_ret;exact⟨_,rfl,L⟩
 |thr k e ea hk G =>
  have HS:=ua G.2;rw[e,ea]at N;rcases F.g.labs with q0|⟨rb,ro,rfl,bo,hL⟩
  ·omega
  obtain⟨na,nc,ba,bc,v0,hn,vh,v1,ad,ae⟩:=(hL k hk).body_cap;have lb:=ud v1;have hk':(k:Int)<(g.nb:Int):=by omega
  have S:=ua (HS R Q H E _ u lc ba bc Y.drew (F.keep (Keep.drew _ _)) (ad.kept (Keep.drew (λ_=>False) _) (λ_ _ e=>e)) ae (o.1.keep (Keep.drew (λ_=>False) _) (λ_ e=>e.elim)));clear G hL hn v0 vh ad ae;go_wp2_with fail;go_region_law (refine qC kN rfl (.tmp 104) (.tmp 111) (.tmp 112) (.tmp 114) 28 68 42 3 rfl (y1:=.agg #[.slice E g.nr u,.slice (some ⟨rb,ro,none⟩) g.nb lc]) (y2:=.slice ba (g.lab k).bl bc) (y3:=.pointer (some ⟨R,0,none⟩)) (y4:=.int .i64 (d:Int)) (by simp[Act.eval]) (by simp[Act.eval]) (by simp[Act.eval]) (by simp[Act.eval]) (S.out.mono ?_);rintro e W2 ⟨v,rfl,l⟩;have L:=ua (udj (K0.out.trans (Keep.drew _ _)) V l);clear l;refine⟨_,rfl,?_⟩);all_goals
   go_wp2;go_ret;exact⟨_,rfl,L⟩
 |star f e b8 O hf Z =>
  have L:=ua hf;have T:=ua Z;have H0:=ua O;have hv:=t.v_le i;have z6:=uz q (by omega);have a1:q<=c:=by omega
  have a2:¬c=0:=by omega
  have bx:¬c=q:=by omega
  rw[e]at N;have hp:3 ^ (d1 / 2)<=3 ^ 13:=Nat.pow_le_pow_right (by omega) (by have:=am;omega);have a0:3 ^ 13=1594323:=rfl;rw[a0]at hp;have bi:=uz (d1 / 2) (by have:=am;omega);obtain⟨dh,aw⟩:=nm (d1 / 2);rw[aw]at bh bi hp;have bb:Hid (∀k,∃y:List Int,y.length<=1594323/\SaC t g dh q B (f k).2 y (f (k+1)).2/\(f (k+1)).1=(f k).1++y):=λk=>by
   obtain⟨y,h1,h2⟩:=L k;rw[am.out,aw]at h1;exact⟨y,Nat.le_trans h1.1.1 hp,h1,h2⟩
  clear hf Z O aw L hp a0;go_wp2_with fail;refine(uw t R i Y o.1).mono ?_;rintro e W1 ⟨rfl,r⟩;replace o:=ua (o.trans r);replace F:=ua (F.keep r.2);replace J:Hid (∀i,i<q+1->OpC Q W1 b (off+i*3) (B i)):=λi P=>(J i P).kept I r.2 (λb q=>(HQ b q).1)
  replace X:=ua (X.keepR r.2 ag);clear z0 p0 D N p1 l1 r;generalize t.v i=k at *;obtain⟨m,hm⟩:=nm (k%4);have hm':(k:Int)%4=(m:Int):=by omega
  have b4:m<=3:=by omega
  rw[hm]at T;clear hm;go_upto_region 26 with fail;simp only[hm'];clear hm';go_loopw [15,16] (λov iv wr=>∃k:Nat,k<=m/\iv=.int .i64 (k:Int)/\(f k).1.length<=k*1594323/\BufR t R (f k).2 W1 (f k).1 ov wr) (λ_ iv _=>m-(intOf iv).toNat)
  case atStart=>exact⟨0,Nat.zero_le _,rfl,by rw[H0.out];exact Nat.zero_le _,by rw[H0.out];exact .nil (RdOn.refl o.1) o.1.lt⟩
  case round =>
   obtain⟨k,hk,rfl,bj,l⟩:=hrel;obtain⟨va,vc,rfl⟩:=l.shape;have aa:=ua l;have bs:Hid (∀i,k=i->f k=f i):=λi e=>by rw[e]
   clear l;by_cases b3:k<m
   ·have hlt':(k:Int)<(m:Int):=(by omega);obtain⟨y,bq,G,a3⟩:=bb k;have an:=ua a3;have HL:Hid ((f k).1.length+y.length<=(k+1)*1594323/\(f k).1.length+y.length<=16000000):=⟨by omega,by omega⟩;have aj:=aa.on.2;have S:=ua (G.2 R Q H E la u lc (some ⟨b,off,none⟩) c wr.drew ((F.keep aj).keep (Keep.drew _ _)) (.inr ⟨b,off,rfl,I,λi P=>((J i (by omega)).kept I aj (λb q=>(HQ b q).1)).kept I (Keep.drew (λ_=>False) _) (λ_ _ e=>e)⟩) (by omega) (aa.on.1.keep (Keep.drew (λ_=>False) _) (λ_ e=>e.elim)));obtain⟨z0,p0,D⟩:=(X.keepR aj ag).x;clear a3 G bq aj bj;obtain⟨f1,ax⟩:=nm (f (k+1));have az:=ua ax;rw[ax]at an S;clear ax;generalize f k=f0 at *;go_wp2_with fail;go_region_law (first|(refine qC kN rfl (.tmp 128) (.tmp 132) (.tmp 133) (.tmp 135) 28 68 42 3 rfl (y1:=.agg #[.slice E g.nr u,.slice la g.nb lc]) (y2:=.slice (some ⟨b,off,none⟩) q c) (y3:=.pointer (some ⟨R,0,none⟩)) (y4:=.int .i64 (dh:Int)) (by simp[Act.eval]) (by simp[Act.eval]) (by simp[Act.eval]) (by simp[Act.eval]) (S.out.mono ?_);rintro e W3 ⟨v,rfl,l⟩;replace aa:=ua ((aa.out.quiet (Keep.drew _ _)).next l.on);obtain⟨ya,yc,rfl⟩:=l.shape;have ap:=ua l.src;clear l;refine⟨_,rfl,?_⟩)|(refine uqE rfl (.tmp 127) (.tmp 136) rfl (v:=.slice va f0.1.length vc) (yv:=.slice ya y.length yc) (by simp[Act.eval]) (by simp[Act.eval]) aa.out ap.out HL.out.2 ?_;intro a5 c5 W5 ao));all_goals
     go_wp2;go_roundw
     case rel=>exact⟨k+1,by omega,by go_num,by rw[az.out,an.out,List.length_append];exact HL.1,by rw[az.out,an.out];exact ao⟩
     case measure=>simp[intOf];omega
   obtain rfl:k=m:=(by omega);have hlt':¬(k:Int)<(k:Int):=(by omega);obtain⟨rfl,rfl⟩:z=(f k).1/\j=(f k).2:=(by rw[<-T.out];exact⟨rfl,rfl⟩);go_wp2;go_ret;exact⟨_,rfl,ucU o.out V aa⟩
 |seq s jx x y e O hs ab ac hX hY Z =>
  have hp:3 ^ d<=3 ^ 13:=Nat.pow_le_pow_right (by omega) (by omega);have hx:=hX.1.1;have hy:=hY.1.1;have HX:=ua hX.2;have HY:=ua hY.2;have HL:Hid (x.length+y.length<=16000000):=by show _<=_;have:3 ^ 13=1594323:=rfl;omega
  subst Z;obtain⟨n,hn⟩:∃n,s=n+1:=⟨s-1,by omega⟩;have HT:Hid (∀W,(∀i,i<q+1->OpC Q W b (off+i*3) (B i))->Calls Tryz.prog 85 #[.slice (some ⟨b,off,none⟩) (q+1) c,.int .i64 (q:Int)] W λen w'=>en=.returned (.int .i64 (s:Int))/\W=w'):=λW h=>kY b off (q+1) c B W Q h (by omega) q s (by omega) hs ab ac
  have hpn':(s:Int)<(q:Int):=by omega
  have bm:(s:Int)<=(q:Int):=by omega
  have bn:s<=q:=by omega
  have z5:=uz s (by omega);have z6:=uz q (by omega);have au:s<=c:=by omega
  have a1:q<=c:=by omega
  have be:¬c=s:=by omega
  have a2:¬c=0:=by omega
  rw[e]at N;clear ab ac hn;have S:=ua (HX R Q H E la u lc (some ⟨b,off,none⟩) c Y.drew (F.keep (Keep.drew _ _)) (.inr ⟨b,off,rfl,I,λi P=>(J i (by omega)).kept I (Keep.drew (λ_=>False) _) (λ_ _ e=>e)⟩) au (o.1.keep (Keep.drew (λ_=>False) _) (λ_ e=>e.elim)));clear hX hY hx hy hp;go_wp2_with fail;refine(HT Y J).mono ?_;rintro e W ⟨rfl,hw⟩;subst hw;go_wp2_with fail;go_region_law (refine qC kN rfl (.tmp 146) (.tmp 149) (.tmp 150) (.tmp 152) 28 68 42 3 rfl (y1:=.agg #[.slice E g.nr u,.slice la g.nb lc]) (y2:=.slice (some ⟨b,off,none⟩) s c) (y3:=.pointer (some ⟨R,0,none⟩)) (y4:=.int .i64 (d:Int)) (by simp[Act.eval]) (by simp[Act.eval]) (by simp[Act.eval]) (by simp[Act.eval]) (S.out.mono ?_);rintro e W2 ⟨v,rfl,l⟩;have L:=ua (udj (K0.out.trans (Keep.drew _ _)) V l);replace F:=ua ((F.out.keep (Keep.drew _ _)).keep l.on.2);replace J:Hid (∀i,i<q+1->OpC Q W2 b (off+i*3) (B i)):=λi P=>((J.out i P).kept I (Keep.drew (λ_=>False) _) (λ_ _ e=>e)).kept I l.on.2 (λb q=>(HQ.out b q).1);replace X:=ua ((X.out.keepR (Keep.drew _ _) ag).keepR l.on.2 ag);obtain⟨va,vc,rfl⟩:=l.shape;clear l;refine⟨_,rfl,?_⟩);clear z0 p0 D N p1 l1;obtain⟨z0,p0,D⟩:=X.x;have a9:=ua (HY R Q H E la u lc (some ⟨b,off+s*3,none⟩) (c-s) W2.drew (F.keep (Keep.drew _ _)) (OpsA.part I (λi P=>(J i P).kept I (Keep.drew (λ_=>False) _) (λ_ _ e=>e)) s (q-s) (by omega)) (by omega) (L.on.1.keep (Keep.drew (λ_=>False) _) (λ_ e=>e.elim)));go_wp2_with fail;go_region_law (first|(refine qC kN rfl (.tmp 155) (.tmp 160) (.tmp 161) (.tmp 163) 28 68 42 3 rfl (y1:=.agg #[.slice E g.nr u,.slice la g.nb lc]) (y2:=.slice (some ⟨b,off+s*3,none⟩) (q-s) (c-s)) (y3:=.pointer (some ⟨R,0,none⟩)) (y4:=.int .i64 (d:Int)) (by simp[Act.eval]) (by simp[Act.eval]) (by simp[Act.eval]) (by simp[Act.eval]) (a9.out.mono ?_);rintro e W3 ⟨v,rfl,l⟩;replace L:=ua ((L.out.quiet (Keep.drew _ _)).next l.on);obtain⟨ya,yc,rfl⟩:=l.shape;have ap:=ua l.src;clear l;refine⟨_,rfl,?_⟩)|(refine uqE rfl (.tmp 154) (.tmp 164) rfl (v:=.slice va x.length vc) (yv:=.slice ya y.length yc) (by simp[Act.eval]) (by simp[Act.eval]) L.out ap.out HL.out ?_;intro a5 c5 W5 ao));all_goals
   go_wp2;go_ret;exact⟨_,rfl,ao⟩
 |alt s e O hs ab ac G =>
  have HS:=ua G;have hv:=t.v_le i;obtain⟨n,hn⟩:∃n,s=n+1:=⟨s-1,by omega⟩;have HT:Hid (∀W,(∀i,i<q+1->OpC Q W b (off+i*3) (B i))->Calls Tryz.prog 85 #[.slice (some ⟨b,off,none⟩) (q+1) c,.int .i64 (q:Int)] W λen w'=>en=.returned (.int .i64 (s:Int))/\W=w'):=λW h=>kY b off (q+1) c B W Q h (by omega) q s (by omega) hs ab ac
  have hpn':(s:Int)<(q:Int):=by omega
  have bm:(s:Int)<=(q:Int):=by omega
  have bn:s<=q:=by omega
  have z5:=uz s (by omega);have z6:=uz q (by omega);have au:s<=c:=by omega
  have a1:q<=c:=by omega
  have be:¬c=s:=by omega
  have a2:¬c=0:=by omega
  rw[e]at N;clear ab ac hn;clear G;go_wp2_with fail;refine(HT Y J).mono ?_;rintro e W ⟨rfl,hw⟩;subst hw;go_wp2_with fail;refine(uw t R i Y o.1).mono ?_;rintro e W1 ⟨rfl,r⟩;replace o:=ua (o.trans r);replace F:=ua (F.keep r.2);replace J:Hid (∀i,i<q+1->OpC Q W1 b (off+i*3) (B i)):=λi P=>(J i P).kept I r.2 (λb q=>(HQ b q).1)
  replace X:=ua (X.keepR r.2 ag);clear z0 p0 D N p1 l1 r;obtain⟨z0,p0,D⟩:=X.x;have a7:=HS;clear HS;generalize t.v i=k at *;obtain⟨m,hm⟩:=nm (k%2);have hm':(k:Int)%2=(m:Int):=by omega
  rw[hm]at a7;clear hm;rcases a7 with⟨h2,G⟩|⟨h2,G⟩
  ·have b0:((m:Int)==0)=true:=(by simp[h2]);have S:=ua (G.2 R Q H E la u lc (some ⟨b,off,none⟩) c W1.drew (F.keep (Keep.drew _ _)) (.inr ⟨b,off,rfl,I,λi P=>(J i (by omega)).kept I (Keep.drew (λ_=>False) _) (λ_ _ e=>e)⟩) au (o.1.keep (Keep.drew (λ_=>False) _) (λ_ e=>e.elim)));clear h2 G;go_wp2_with fail;go_region_law (refine qC kN rfl (.tmp 177) (.tmp 180) (.tmp 181) (.tmp 183) 28 68 42 3 rfl (y1:=.agg #[.slice E g.nr u,.slice la g.nb lc]) (y2:=.slice (some ⟨b,off,none⟩) s c) (y3:=.pointer (some ⟨R,0,none⟩)) (y4:=.int .i64 (d:Int)) (by simp[Act.eval]) (by simp[Act.eval]) (by simp[Act.eval]) (by simp[Act.eval]) (S.out.mono ?_);rintro e W2 ⟨v,rfl,l⟩;have L:=ua (ucU (o.out.quiet (Keep.drew _ _)) V l);clear l;refine⟨_,rfl,?_⟩);all_goals
    go_wp2;go_ret;exact⟨_,rfl,L⟩
  have b0:((m:Int)==0)=false:=by simp;omega
  have S:=ua (G.2 R Q H E la u lc (some ⟨b,off+s*3,none⟩) (c-s) W1.drew (F.keep (Keep.drew _ _)) (OpsA.part I (λi P=>(J i P).kept I (Keep.drew (λ_=>False) _) (λ_ _ e=>e)) s (q-s) (by omega)) (by omega) (o.1.keep (Keep.drew (λ_=>False) _) (λ_ e=>e.elim)));clear h2 G;go_wp2_with fail;go_region_law (refine qC kN rfl (.tmp 185) (.tmp 190) (.tmp 191) (.tmp 193) 28 68 42 3 rfl (y1:=.agg #[.slice E g.nr u,.slice la g.nb lc]) (y2:=.slice (some ⟨b,off+s*3,none⟩) (q-s) (c-s)) (y3:=.pointer (some ⟨R,0,none⟩)) (y4:=.int .i64 (d:Int)) (by simp[Act.eval]) (by simp[Act.eval]) (by simp[Act.eval]) (by simp[Act.eval]) (S.out.mono ?_);rintro e W2 ⟨v,rfl,l⟩;have L:=ua (ucU (o.out.quiet (Keep.drew _ _)) V l);clear l;refine⟨_,rfl,?_⟩);all_goals
   go_wp2;go_ret;exact⟨_,rfl,L⟩
theorem uil t g d n B i(h:d=0\/n=0)(r:d<=14):SaC t g d n B i [] i:=by
 refine⟨⟨Nat.zero_le _,λx m=>by cases m⟩,λR Q H o la p lc a c w k j l e=>?_⟩;have f:=ua (BufR.nil (RdOn.quiet (RdOn.refl e) (Keep.alloc _ w (.cells #[.slice o g.nr p,.slice la g.nb lc] 28))) e.lt);clear k j e l;by_cases b:d=0
 ·subst b;go_enter Tryz.func52,Tryz.ntmps52;go_wp2;go_ret;exact⟨_,rfl,f⟩
 obtain rfl:=h.resolve_left b;have q:¬(d:Int)<=0:=by omega
 clear b h;go_enter Tryz.func52,Tryz.ntmps52;go_wp2;go_ret;exact⟨_,rfl,f⟩
theorem ukR t{g}(f:M.Sound g)d:d<=14->∀n B i,(n=0\/M.BodyOK g.nr g.nb n B)->n<=2000->∃p:List Int×Nat,SaC t g d n B i p.1 p.2:=by
 induction d using Nat.strongRecOn with
 |_ d A =>
  intro h n B i b k;by_cases m:d=0\/n=0
  ·exact⟨([],i),uil t g d n B i m h⟩
  obtain⟨d,rfl⟩:∃e,d=e+1:=⟨d-1,by omega⟩;obtain⟨q,rfl⟩:∃q,n=q+1:=⟨n-1,by omega⟩;have b:=b.resolve_left (by omega);obtain⟨z,j,y,x⟩:=usN t f d q i b k (λl v=>A l v (by omega));exact⟨(z,j),y,λR Q H C la D lc a c w r o u s=>ug2 t d q i b k h f z j x R Q H C la D lc a c w r o u s⟩
open Classical in
noncomputable def smX (t:Tp) (g:Gr) (i:Nat):List Int×Nat:=if h:∃p:List Int×Nat,SaC t g 14 (g.rule 0).bl (g.rule 0).body i p.1 p.2 then h.choose else ([],i)
theorem umx t{g}(a:M.Sound g)i:SaC t g 14 (g.rule 0).bl (g.rule 0).body i (smX t g i).1 (smX t g i).2:=by
 have h:=ukR t a 14 (Nat.le_refl _) (g.rule 0).bl (g.rule 0).body i (.inr (a.rb 0 a.r1)) (jV a a.r1);unfold smX;rw[dif_pos h];exact h.choose_spec
end Go.Proofs.YtimfigongapdnaaGreat
