import Derived.Test.YtimfigongapdnaaGreatT26
set_option linter.unusedVariables false
set_option linter.unusedSimpArgs false
set_option maxHeartbeats 40000000
set_option maxRecDepth 100000
namespace Go.Proofs.YtimfigongapdnaaGreat
open Go.RowKit
open M (OpD ug Gr)
def qK(t:Tx):Nat->Nat->List Tok
 |0,_=>[]
 |f+1,i=>if i<t.n then (if (xM t i).1.kind=0 then [(xM t i).1] else (xM t i).1::qK t f (skip t (xM t i).2)) else []
def kR(t:Tx):List Tok:=qK t (t.n+1) (skip t 0)
theorem uiG t:∀f i,i<=skp t f i
 |0,i=>Nat.le_refl _
 |f+1,i=>by
  rw[skp];split
  ·split
   ·exact Nat.le_trans (Nat.le_succ i) (uiG t f (i+1))
   split
   ·exact Nat.le_trans (uiw t _ i) (uiG t f _)
   exact Nat.le_refl _
  exact Nat.le_refl _
theorem uiH t:∀f i,i<=t.n->skp t f i<=t.n
 |0,i,h=>h
 |f+1,i,h=>by
  rw[skp];split
  ·split
   ·exact uiH t f (i+1) (by omega)
   split
   ·exact uiH t f _ (uix t _ i h)
   exact h
  exact h
theorem ujW t i:i<=skip t i:=uiG t _ i
theorem ucZ t{i}(h:i<=t.n):skip t i<=t.n:=uiH t _ i h
theorem udH t:∀(f j:Nat) (z:List Int),j<=t.n->j<=(yt t f j z).2/\(yt t f j z).2<=t.n
 |0,j,z,h=>⟨Nat.le_refl _,h⟩
 |f+1,j,z,h=>by
  rw[yt];split
  ·have:=udH t f (j+1) (z++[t.T j]) (by omega);omega
  exact⟨Nat.le_refl _,h⟩
theorem um9 t{i}(b:i<t.n)(a:(xM t i).1.kind≠0):i<(xM t i).2/\(xM t i).2<=t.n:=by
 unfold xM at a ⊢;split
 ·rename_i d;have f:t.n-i=(t.n-i-1)+1:=by omega
  rw[f,yt,if_pos ⟨b,.inl d⟩];have:=udH t (t.n-i-1) (i+1) ([]++[t.T i]) b;simp only at this ⊢;omega
 rename_i d;rw[if_neg d]at a;split
 ·rename_i c;rw[if_pos c]at a;cases h:uhm t i with
  |none=>rw[h]at a;exact absurd rfl a
  |some q=>have:=ufS b h;simp only;omega
 rename_i c;rw[if_neg c]at a;split
 ·rename_i e;rw[if_pos e]at a;cases h:ucM t i with
  |none=>rw[h]at a;exact absurd rfl a
  |some q=>have:=ufU b h;simp only;omega
 rename_i e;split
 ·simp only;omega
 simp only;omega
structure TC where
 k:Tok
 na:Option Addr
 nc:Nat
 sa:Option Addr
 sc:Nat
def tcv(x:TC):List Value:=[.int .u8 x.k.kind,.int .i64 x.k.at_,.slice x.na x.k.nm.length x.nc,.slice x.sa x.k.set.length x.sc]
theorem ujX x:(tcv x).length=4:=rfl
theorem urM:(Tryz.prog.info? 62).map (λi=>(i.zero,i.size,i.bytes))=some (some (.agg #[.int .u8 0,.int .i64 0,.slice none 0 0,.slice none 0 0]),4,64):=by kernel_rfl
theorem una:vG 56 62 4 64:=⟨Tryz.underlying56,⟨_,urM,rfl⟩,by omega⟩
structure usR(w0 wr:World)(v:Value)(l:List TC)(P:Nat->Prop):Prop where
 own:OwnC P wr v 4 l.length (l.flatMap tcv)
 new:∀b,P b->New w0 wr b
 nm:∀x∈l,Ints (λb=>New w0 wr b/\¬P b) .u8 wr x.na x.k.nm.length (lf x.k.nm)/\Ints (λb=>New w0 wr b/\¬P b) .i64 wr x.sa x.k.set.length (lf x.k.set)
 keep:Keep (λ_=>False) w0 wr
def TokR(w0 wr:World)(v:Value)(l:List TC):Prop:=∃P,usR w0 wr v l P
theorem TokR.nil{w0 wr}(h:Keep (λ_=>False) w0 wr):TokR w0 wr (.slice none 0 0) [] :=
 ⟨λ_=>False,.inl ⟨rfl,rfl,rfl⟩,λ_ q=>q.elim,(λx a=>by cases a),h⟩
theorem ula{w0 wr W W1 c v n l x P}(h:usR w0 wr v l P)(i:Keep (λ_=>False) wr W)(g:Keep (λ_=>False) W W1)(z:Ints (New wr W) .u8 W x.na x.k.nm.length (lf x.k.nm))(C:Ints (New wr W) .i64 W x.sa x.k.set.length (lf x.k.set))(A:OwnC (λb=>P b\/W1.heap.size<=b) c n 4 (l.length+1) (l.flatMap tcv++tcv x))(f:Grew P W1 c):TokR w0 c n (l++[x]):=by
 have F:=h.keep.size;have G:=i.size;have H:=g.size;have I:=f.size;refine⟨λb=>(P b\/W1.heap.size<=b)/\b<c.heap.size,?_,?_,?_,ye ((h.keep.trans i).trans g) f (λb q=>(h.new b q).1)⟩
 ·have e:(l++[x]).flatMap tcv=l.flatMap tcv++tcv x:=by simp
  rw[e,List.length_append,List.length_singleton];rcases A with⟨_,q,_⟩|⟨b,cap,e,B,s,t,w,j⟩
  ·omega
  refine .inr ⟨b,cap,e,⟨B,?_⟩,s,t,w,j⟩;obtain⟨u,D⟩:=Option.isSome_iff_exists.1 (j 0 (by omega)).1;exact ud D
 ·rintro b ⟨q|q,m⟩
  ·exact⟨(h.new b q).1,m⟩
  exact⟨by omega,m⟩
 intro y E;rcases List.mem_append.1 E with q|q
 ·obtain⟨o,p⟩:=h.nm y q;have st:Stay (λb=>New w0 wr b/\¬P b) wr c:=λb a=>(f.block b (by have:=a.1.2;omega) a.2).trans ((g.block b (by have:=a.1.2;omega) (λe=>e)).trans (i.block b a.1.2 (λe=>e)))
  have d:∀b,(New w0 wr b/\¬P b)->New w0 c b/\¬((P b\/W1.heap.size<=b)/\b<c.heap.size):=λb a=>⟨⟨a.1.1,by have:=a.1.2;omega⟩,λr=>r.1.elim a.2 (λr=>by have:=a.1.2;omega)⟩
  exact⟨(o.on st).wide d,(p.on st).wide d⟩
 obtain rfl:=List.mem_singleton.1 q;have st:Stay (New wr W) W c:=λb a=>(f.block b (by have:=a.2;omega) (λr=>by have:=(h.new b r).2;have:=a.1;omega)).trans (g.block b a.2 (λe=>e))
 have d:∀b,New wr W b->New w0 c b/\¬((P b\/W1.heap.size<=b)/\b<c.heap.size):=λb a=>⟨⟨by have:=a.1;omega,by have:=a.2;omega⟩,λr=>r.1.elim (λr=>by have:=(h.new b r).2;have:=a.1;omega) (λr=>by have:=a.2;omega)⟩
 exact⟨(z.on st).wide d,(C.on st).wide d⟩
theorem TokR.shape{w0 wr v l}(h:TokR w0 wr v l):∃a c,v=.slice a l.length c:=by
 obtain⟨P,h⟩:=h;exact uk h.own
theorem upB(W:World)(x:TC){ty}:Src Tryz.prog 4 56 (.slice (some ⟨W.heap.size,0,none⟩) 1 1) 1 (tcv x) (W.alloc (.cells #[.int .u8 x.k.kind,.int .i64 x.k.at_,.slice x.na x.k.nm.length x.nc,.slice x.sa x.k.set.length x.sc] ty)) :=
 yp Tryz.underlying56 rfl (λj u a=>by
  have b:=World.alloc_heap_new W (.cells #[.int .u8 x.k.kind,.int .i64 x.k.at_,.slice x.na x.k.nm.length x.nc,.slice x.sa x.k.set.length x.sc] ty);simp only[World.cell?,b];rw[<-a];simp[tcv]) (λu a=>by
  simp only[tcv,List.mem_cons,List.not_mem_nil,or_false]at a;rcases a with rfl|rfl|rfl|rfl<;>rfl)
def urN(l:List Tok)(w:World)(e:Ending)(w':World):Prop:=∃a c L,e=.returned (.slice a l.length c)/\L.map (·.k)=l/\TokR w w' (.slice a l.length c) L
theorem uf1 Q t a c w(hT:TxA Q w a t) :
  Calls Tryz.prog 22 #[.slice a t.n c] w (urN (kR t) w):=by
 have ax:=t.le;have Z:=ua hT;obtain⟨R,hR⟩:=nm (kR t);rw[hR];have HR:Hid (qK t (t.n+1) (skip t 0)=R):=hR;go_enter Tryz.func22,Tryz.ntmps22;go_wp2_with fail;refine(udE Q t a c 0 w Z (Nat.zero_le _)).mono ?_;rintro e W ⟨rfl,hw⟩;subst W;have ap:=ucZ t (Nat.zero_le t.n);generalize skip t 0=i0 at *;go_wp2_with fail;go_loopw [3,4] (λv u wr=>∃(f i:Nat) (L:List TC),i<=t.n/\t.n-i<f/\L.length<=i/\u=.int .i64 i/\L.map (·.k)++qK t f i=R/\TokR w wr v L) (λ_ u _=>t.n-(intOf u).toNat)
 case atStart=>exact⟨t.n+1,i0,[],ap,by omega,by simp,rfl,HR.out,TokR.nil (Keep.refl _ _)⟩
 case round =>
  obtain⟨f,i,L,hi,hf,hL,rfl,he,hK⟩:=hrel;obtain⟨f,rfl⟩:∃q,f=q+1:=⟨f-1,by omega⟩;obtain⟨va,vc,rfl⟩:=hK.shape;have HE:=ua he;have X:=ua hK;have af:Hid (TxA Q wr a t):=by
   obtain⟨P,h⟩:=hK;exact Z.keep h.keep
  by_cases U:i<t.n
  ·have hlt':(i:Int)<t.n:=(by omega);have ac:=ua (um9 t U);have V:Hid (L.map (·.k)++(if (xM t i).1.kind=0 then [(xM t i).1] else (xM t i).1::qK t f (skip t (xM t i).2))=R):=by
    have:=HE;rw[qK,if_pos U]at this;exact this
   go_wp2_with fail;refine(uiA Q t a c i wr af U).mono ?_;generalize xM t i=r at *;obtain⟨⟨l,ka,d,g⟩,j⟩:=r;rintro e W ⟨o,p,s,y,rfl,h1,h2,D⟩;simp only at h1 h2 V ac;unfold ub5;simp only;have au:=ua (af.keep D);obtain⟨P,B⟩:=X;have HP:=ua B;have ad:Hid (∀W1 J z,Keep (λ_=>False) W W1->OwnC (λb=>P b\/W1.heap.size<=b) z J 4 (L.length+1) (L.flatMap tcv++tcv ⟨⟨l,ka,d,g⟩,o,p,s,y⟩)->Grew P W1 z->TokR w z J (L++[⟨⟨l,ka,d,g⟩,o,p,s,y⟩])/\(∀b,W.heap.size<=b->b<W1.heap.size->z.heap[b]?=W1.heap[b]?)):=λW1 J z k2 ho hg =>
    ⟨ula (x:=⟨⟨l,ka,d,g⟩,o,p,s,y⟩) B D k2 h1 h2 ho hg,λb av an=>hg.block b an (λq=>by have:=(B.new b q).2;have:=D.size;omega)⟩
   have ak:Hid (∀W1,Keep (λ_=>False) W W1->OwnC P W1 (.slice va L.length vc) 4 L.length (L.flatMap tcv)):=λW1 k2=>B.own.on (λb hb=>(k2.block b (by have:=(B.new b hb).2;have:=D.size;omega) (λe=>e)).trans (D.block b (B.new b hb).2 (λe=>e)))
   have al:Hid (∀W1:World,Src Tryz.prog 4 56 (.slice (some ⟨W1.heap.size,0,none⟩) 1 1) 1 (tcv ⟨⟨l,ka,d,g⟩,o,p,s,y⟩) (W1.alloc (.cells #[.int .u8 l,.int .i64 ka,.slice o d.length p,.slice s g.length y] 62))):=λW1=>upB W1 ⟨⟨l,ka,d,g⟩,o,p,s,y⟩
   have Y:Hid (Keep (λ_=>False) W ((W.alloc (.cells #[.int .u8 l,.int .i64 ka,.slice o d.length p,.slice s g.length y] 62)).alloc (.cells #[.int .u8 l,.int .i64 ka,.slice o d.length p,.slice s g.length y] 62))):=(Keep.alloc _ _ _).trans (Keep.alloc _ _ _);have ab:Hid (((W.alloc (.cells #[.int .u8 l,.int .i64 ka,.slice o d.length p,.slice s g.length y] 62)).alloc (.cells #[.int .u8 l,.int .i64 ka,.slice o d.length p,.slice s g.length y] 62)).heap[W.heap.size]?=some (.cells #[.int .u8 l,.int .i64 ka,.slice o d.length p,.slice s g.length y] 62)):=uaa (yK W _ _ rfl) _;have ae:Hid (Src Tryz.prog 4 56 (.slice (some ⟨W.heap.size+1,0,none⟩) 1 1) 1 (tcv ⟨⟨l,ka,d,g⟩,o,p,s,y⟩) ((W.alloc (.cells #[.int .u8 l,.int .i64 ka,.slice o d.length p,.slice s g.length y] 62)).alloc (.cells #[.int .u8 l,.int .i64 ka,.slice o d.length p,.slice s g.length y] 62))):=by
    have:=al (W.alloc (.cells #[.int .u8 l,.int .i64 ka,.slice o d.length p,.slice s g.length y] 62));rwa [show(W.alloc (.cells #[.int .u8 l,.int .i64 ka,.slice o d.length p,.slice s g.length y] 62)).heap.size=W.heap.size+1 by simp]at this
   have N:=ak _ Y;have ai:L.length+1<=16777216:=(by omega);by_cases T:l=0
   ·subst T;have e:=V;rw[if_pos rfl]at e;go_wp2_with (at_builtin;refine uaL rfl _ _ 56 56 rfl rfl rfl una (Q:=P) (n:=L.length) (cs:=L.flatMap tcv) (m:=1) (news:=tcv ⟨⟨0,ka,d,g⟩,o,p,s,y⟩) N ae ai ?_;intro J z I G aa;obtain⟨A,E⟩:=ad _ _ _ Y I G;have F:=(E W.heap.size (Nat.le_refl _) (by simp;omega)).trans ab;have c5:z.cell? ⟨W.heap.size,0,none⟩=some (.int .u8 0):=ul F rfl;have aq:=ud c5;obtain⟨O,S,rfl⟩:=A.shape;have C:Hid (TokR w z (.slice O (L++[(⟨⟨0,ka,d,g⟩,o,p,s,y⟩:TC)]).length S) (L++[(⟨⟨0,ka,d,g⟩,o,p,s,y⟩:TC)])):=A;clear I G aa A E F N);go_ret;have H:(L++[(⟨⟨0,ka,d,g⟩,o,p,s,y⟩:TC)]).length=R.length:=(by rw[<-e];simp);have h5:=C;rw[H]at h5;exact⟨O,S,_,by rw[<-H,List.length_append];rfl,by rw[List.map_append];exact e,h5⟩
   have hk0':(l==0)=false:=(by simpa using T);have e:=V;rw[if_neg T]at e;obtain⟨aw,ah⟩:=ac T;have aj:Hid (L.map (·.k)++(⟨l,ka,d,g⟩::qK t f (skip t j))=R):=e;have ay:=ujW t j;have ao:=ucZ t ah;go_wp2_with (at_builtin;refine uaL rfl _ _ 56 56 rfl rfl rfl una (Q:=P) (n:=L.length) (cs:=L.flatMap tcv) (m:=1) (news:=tcv ⟨⟨l,ka,d,g⟩,o,p,s,y⟩) N ae.out ai ?_;intro J z I G aa;obtain⟨A,E⟩:=ad.out _ _ _ Y I G;have F:=(E W.heap.size (Nat.le_refl _) (by simp;omega)).trans ab;have c5:z.cell? ⟨W.heap.size,0,none⟩=some (.int .u8 l):=ul F rfl;have aq:=ud c5;obtain⟨O,S,rfl⟩:=A.shape;have C:Hid (TokR w z (.slice O (L++[(⟨⟨l,ka,d,g⟩,o,p,s,y⟩:TC)]).length S) (L++[(⟨⟨l,ka,d,g⟩,o,p,s,y⟩:TC)])):=A;clear I G aa A E F N);obtain⟨P5,ag⟩:=C.out;have am:Hid (TxA Q z a t):=Z.out.keep ag.keep;clear ag;refine(udE Q t a c j z am.out ah).mono ?_;rintro e W6 ⟨rfl,hw⟩;subst W6;generalize skip t j=j2 at *;go_wp2;go_roundw
   case rel=>exact⟨f,j2,L++[(⟨⟨l,ka,d,g⟩,o,p,s,y⟩:TC)],ao,by omega,by simp;omega,rfl,by rw[List.map_append,List.append_assoc];exact aj.out,by rw[List.length_append]at C;exact C.out⟩
   case measure=>simp[intOf];omega
  have hlt':¬(i:Int)<t.n:=by omega
  go_wp2;go_ret;have e:=HE;rw[qK,if_neg U,List.append_nil]at e;have H:L.length=R.length:=by rw[<-e];simp
  rw[H]at X;exact⟨va,vc,L,by rw[H];rfl,e,X⟩
def uN(s d:Nat)(k:Int):Nat×Nat :=
 if s=0 then (if k=94 then (1,0) else if k=110 then (2,0) else (7,0))
 else if s=1 then (if k=110 then (2,0) else (7,0))
 else if s=2 then (if k=61 then (3,0) else (7,0))
 else if s=5 then (if k=110 then (6,d) else (7,0))
 else if k=33\/k=38 then (4,d)
 else if k=110\/k=34\/k=91\/k=46 then (6,d)
 else if k=94 then (5,d)
 else if k=40 then (3,d+1)
 else if s=4 then (7,0)
 else if s=6/\(k=42\/k=63) then (3,d)
 else if k=47 then (3,d)
 else if k=41/\0<d then (6,d-1)
 else if k=59/\d=0 then (0,0)
 else (7,0)
def udx(r:Nat×Nat)(w:World)(e:Ending)(w':World):Prop:=e=.returned (.tuple #[.int .i64 r.1,.int .i64 r.2])/\w'=w
theorem vS{r:Nat×Nat}{x y w}(h:r=(x,y)):udx r w (.returned (.tuple #[.int .i64 x,.int .i64 y])) w:=by subst h;exact⟨rfl,rfl⟩
theorem uiy(s d:Nat)(k:Int)w(a:s=0\/s=1\/s=2\/s=5)(i:d<=1048576) :
  Calls Tryz.prog 61 #[.int .i64 s,.int .i64 d,.int .u8 k] w (udx (uN s d k) w):=by
 rcases(show k=94\/k=110\/k=61\/(¬k=94/\¬k=110/\¬k=61) by omega) with rfl|rfl|rfl|⟨b,c,e⟩
 ·rcases a with rfl|rfl|rfl|rfl;all_goals (
   go_enter Tryz.func61,Tryz.ntmps61;go_wp2;go_ret2;exact vS rfl)
 ·rcases a with rfl|rfl|rfl|rfl;all_goals (
   go_enter Tryz.func61,Tryz.ntmps61;go_wp2;go_ret2;exact vS rfl)
 ·rcases a with rfl|rfl|rfl|rfl;all_goals (
   go_enter Tryz.func61,Tryz.ntmps61;go_wp2;go_ret2;exact vS rfl)
 have f:(k==94)=false:=by simpa using b
 have g:(k==110)=false:=by simpa using c
 have h:(k==61)=false:=by simpa using e
 rcases a with rfl|rfl|rfl|rfl;all_goals (
  go_enter Tryz.func61,Tryz.ntmps61;go_wp2;go_ret2;exact vS (x:=7) (y:=0) (by simp[uN,b,c,e]))
theorem uhf(s d:Nat)(k:Int)w(a:s=3\/s=4\/s=6)(N:d<=1048576) :
  Calls Tryz.prog 61 #[.int .i64 s,.int .i64 d,.int .u8 k] w (udx (uN s d k) w):=by
 rcases(show k=33\/k=38\/k=110\/k=34\/k=91\/k=46\/k=94\/k=40\/k=42\/k=63\/k=47\/(¬k=33/\¬k=38/\¬k=110/\¬k=34/\¬k=91/\¬k=46/\¬k=94/\¬k=40/\¬k=42/\¬k=63/\¬k=47) by omega) with rfl|rfl|rfl|rfl|rfl|rfl|rfl|rfl|rfl|rfl|rfl|⟨f,i,j,l,m,n,o,p,r,g,h⟩
 ·rcases a with rfl|rfl|rfl;all_goals (
   go_enter Tryz.func61,Tryz.ntmps61;go_wp2;go_ret2;exact vS rfl)
 ·rcases a with rfl|rfl|rfl;all_goals (
   go_enter Tryz.func61,Tryz.ntmps61;go_wp2;go_ret2;exact vS rfl)
 ·rcases a with rfl|rfl|rfl;all_goals (
   go_enter Tryz.func61,Tryz.ntmps61;go_wp2;go_ret2;exact vS rfl)
 ·rcases a with rfl|rfl|rfl;all_goals (
   go_enter Tryz.func61,Tryz.ntmps61;go_wp2;go_ret2;exact vS rfl)
 ·rcases a with rfl|rfl|rfl;all_goals (
   go_enter Tryz.func61,Tryz.ntmps61;go_wp2;go_ret2;exact vS rfl)
 ·rcases a with rfl|rfl|rfl;all_goals (
   go_enter Tryz.func61,Tryz.ntmps61;go_wp2;go_ret2;exact vS rfl)
 ·rcases a with rfl|rfl|rfl;all_goals (
   go_enter Tryz.func61,Tryz.ntmps61;go_wp2;go_ret2;exact vS rfl)
 ·rcases a with rfl|rfl|rfl;all_goals (
   go_enter Tryz.func61,Tryz.ntmps61;go_wp2;go_ret2;exact vS rfl)
 ·rcases a with rfl|rfl|rfl;all_goals (
   go_enter Tryz.func61,Tryz.ntmps61;go_wp2;go_ret2;exact vS rfl)
 ·rcases a with rfl|rfl|rfl;all_goals (
   go_enter Tryz.func61,Tryz.ntmps61;go_wp2;go_ret2;exact vS rfl)
 ·rcases a with rfl|rfl|rfl;all_goals (
   go_enter Tryz.func61,Tryz.ntmps61;go_wp2;go_ret2;exact vS rfl)
 have v:(k==33)=false:=by simpa using f
 have D:(k==38)=false:=by simpa using i
 have E:(k==110)=false:=by simpa using j
 have F:(k==34)=false:=by simpa using l
 have G:(k==91)=false:=by simpa using m
 have H:(k==46)=false:=by simpa using n
 have I:(k==94)=false:=by simpa using o
 have J:(k==40)=false:=by simpa using p
 have L:(k==42)=false:=by simpa using r
 have z:(k==63)=false:=by simpa using g
 have A:(k==47)=false:=by simpa using h
 by_cases c:k=41
 ·subst c;by_cases b:d=0
  ·subst b;rcases a with rfl|rfl|rfl;all_goals (
    go_enter Tryz.func61,Tryz.ntmps61;go_wp2;go_ret2;exact vS rfl)
  obtain⟨q,rfl⟩:∃q,d=q+1:=⟨d-1,by omega⟩;have t:(0:Int)<((q+1:Nat):Int):=by omega
  have u:((q+1:Nat):Int)-1=(q:Int):=by omega
  rcases a with rfl|rfl|rfl;all_goals (
   go_enter Tryz.func61,Tryz.ntmps61;go_wp2;go_ret2;exact⟨by congr 3<;>simp[uN],rfl⟩)
 have B:(k==41)=false:=by simpa using c
 by_cases e:k=59
 ·subst e;by_cases b:d=0
  ·subst b;rcases a with rfl|rfl|rfl;all_goals (
    go_enter Tryz.func61,Tryz.ntmps61;go_wp2;go_ret2;exact vS rfl)
  have t:((d:Int)==0)=false:=by simpa using b
  have u:¬(d:Int)=0:=by omega
  rcases a with rfl|rfl|rfl;all_goals (
   go_enter Tryz.func61,Tryz.ntmps61;go_wp2;go_ret2;exact vS (x:=7) (y:=0) (by simp[uN,b]))
 have C:(k==59)=false:=by simpa using e
 rcases a with rfl|rfl|rfl;all_goals (
  go_enter Tryz.func61,Tryz.ntmps61;go_wp2;go_ret2;exact vS (x:=7) (y:=0) (by simp[uN,f,i,j,l,m,n,o,p,r,g,h,c,e]))
theorem uiz(s d:Nat)(k:Int)w(b:s<7)(a:d<=1048576) :
  Calls Tryz.prog 61 #[.int .i64 s,.int .i64 d,.int .u8 k] w (udx (uN s d k) w):=by
 rcases(show(s=0\/s=1\/s=2\/s=5)\/(s=3\/s=4\/s=6) by omega) with h|h
 ·exact uiy s d k w h a
 exact uhf s d k w h a
theorem ifP{α:Type}(P:α->Prop){p:Prop}[Decidable p]{a b:α}(c:P a)(d:P b):P (if p then a else b):=by
 split
 ·exact c
 exact d
theorem uk1 s d k:(uN s d k).1<=7/\(uN s d k).2<=d+1:=by
 show(λr:Nat×Nat=>r.1<=7/\r.2<=d+1) (uN s d k);unfold uN;repeat' (refine ifP (λr:Nat×Nat=>r.1<=7/\r.2<=d+1) ?_ ?_)
 all_goals (refine⟨?_,?_⟩<;>simp<;>omega)
structure TokC(Q:Nat->Prop)(w:World)(b o:Nat)(k:Tok):Prop where
 kind:w.cell? ⟨b,o,none⟩=some (.int .u8 k.kind)
 at_:w.cell? ⟨b,o+1,none⟩=some (.int .i64 k.at_)
 nm:∃a c,w.cell? ⟨b,o+2,none⟩=some (.slice a k.nm.length c)/\Ints Q .u8 w a k.nm.length (lf k.nm)
 set:∃a c,w.cell? ⟨b,o+3,none⟩=some (.slice a k.set.length c)/\Ints Q .i64 w a k.set.length (lf k.set)
def TksA(Q:Nat->Prop)(w:World)(a:Option Addr)(l:List Tok):Prop:=l = []\/∃b off,a=some ⟨b,off,none⟩/\∀i x,l[i]?=some x->TokC Q w b (off+i*4) x
theorem TokC.later{Q w w' b o k}(h:TokC Q w b o k)(t:Below w.heap.size w w'):TokC Q w' b o k:=by
 obtain⟨f,g,⟨a,c,i,j⟩,⟨d,e,l,m⟩⟩:=h;exact⟨ue f t,ue g t,⟨a,c,ue i t,j.later t⟩,⟨d,e,ue l t,m.later t⟩⟩
theorem TksA.later{Q w w' a l}(h:TksA Q w a l)(t:Below w.heap.size w w'):TksA Q w' a l:=by
 rcases h with h|⟨b,off,e,h⟩
 ·exact .inl h
 exact .inr ⟨b,off,e,λi x c=>(h i x c).later t⟩
theorem TksA.at{Q w a l}(h:TksA Q w a l){i}(c:i<l.length):∃b off,a=some ⟨b,off,none⟩/\∀i x,l[i]?=some x->TokC Q w b (off+i*4) x:=by
 rcases h with h|h
 ·subst h;simp at c
 exact h
theorem TokR.read{w0 wr a n c L}(h:TokR w0 wr (.slice a n c) L):TksA (New w0 wr) wr a (L.map (·.k)):=by
 obtain⟨P,h⟩:=h;rcases h.own with⟨_,q,_⟩|⟨g,cap,e,w,s,t,o,u⟩
 ·exact .inl (by rw[List.eq_nil_of_length_eq_zero q];rfl)
 injection e with e1 e2 e3;subst e1;refine .inr ⟨g,0,rfl,λi x m=>?_⟩;rw[List.getElem?_map]at m;obtain⟨y,f,rfl⟩:=Option.map_eq_some_iff.1 m;have v:=(List.getElem?_eq_some_iff.1 f).1;have r:=yi tcv 4 ujX L;have d:∀j,j<4->wr.cell? ⟨g,0+i*4+j,none⟩=(tcv y)[j]?:=λj p=>by
  rw[Nat.zero_add,o (i*4+j) (by rw[r];omega),vw tcv 4 ujX L i j y f p]
 have l:=h.nm y (List.mem_of_getElem? f);exact⟨d 0 (by omega),d 1 (by omega),⟨y.na,y.nc,d 2 (by omega),l.1.wide (λb q=>q.1)⟩,⟨y.sa,y.sc,d 3 (by omega),l.2.wide (λb q=>q.1)⟩⟩
def uv(n:Nat):List Tok->Nat->Nat->Int
 |[],s,_=>if s=0 then -1 else n
 |x::r,s,d=>if x.kind=0 then x.at_ else if (uN s d x.kind).1=7 then x.at_ else uv n r (uN s d x.kind).1 (uN s d x.kind).2
theorem xj{α:Type}{l:List α}{i:Nat}{x:α}(h:l[i]?=some x):l.drop i=x::l.drop (i+1):=by
 obtain⟨a,e⟩:=List.getElem?_eq_some_iff.1 h;rw[List.drop_eq_getElem_cons a,e]
theorem uho Q l a(c n:Nat)w(B:TksA Q w a l)(J:l.length<=1048576) :
  Calls Tryz.prog 23 #[.slice a l.length c,.int .i64 n] w λe w'=>e=.returned (.int .i64 (uv n l 0 0))/\w'=w:=by
 have z:=ua B;obtain⟨R,r⟩:=nm (uv n l 0 0);rw[r];go_enter Tryz.func23,Tryz.ntmps23;go_wp2;go_loopw [5,6,7] (λG F o wr=>∃(s d i:Nat),s<7/\d<=i/\i<=l.length/\G=.int .i64 s/\F=.int .i64 d/\o=.int .i64 i/\wr=w/\uv n (l.drop i) s d=R) (λ_ _ o _=>l.length-(intOf o).toNat)
 case atStart=>exact⟨0,0,0,by omega,by omega,by omega,rfl,rfl,rfl,rfl,r⟩
 case round =>
  obtain⟨s,d,i,D,H,I,rfl,rfl,rfl,rfl,C⟩:=hrel;have j:=ua C;by_cases u:i<l.length
  ·have hlt':(i:Int)<l.length:=(by omega);obtain⟨b,off,rfl,t⟩:=z.at u;obtain⟨x,m⟩:∃x,l[i]?=some x:=⟨_,List.getElem?_eq_getElem u⟩;have k:=t i x m;have E:=k.kind;have N:=k.at_;have g:Hid ((if x.kind=0 then (x.at_:Int) else if (uN s d x.kind).1=7 then (x.at_:Int) else uv n (l.drop (i+1)) (uN s d x.kind).1 (uN s d x.kind).2)=R):=by
    have:=j.out;rw[xj m,uv]at this;exact this
   clear j k t m;by_cases f:x.kind=0
   ·have e:=g.out;rw[if_pos f]at e;rw[f]at E;clear g;go_wp2;go_ret;exact⟨uD rfl,rfl⟩
   have h0':(x.kind==0)=false:=(by simpa using f);have e:=g.out;rw[if_neg f]at e;have h:Hid ((if (uN s d x.kind).1=7 then (x.at_:Int) else uv n (l.drop (i+1)) (uN s d x.kind).1 (uN s d x.kind).2)=R):=e;clear e g;have y:Hid (∀w,Calls Tryz.prog 61 #[.int .i64 s,.int .i64 d,.int .u8 x.kind] w (udx (uN s d x.kind) w)):=λw=>uiz s d x.kind w D (by omega)
   obtain⟨r1,r2⟩:=uk1 s d x.kind;generalize uN s d x.kind=p at *;obtain⟨s',A⟩:=p;simp only at r1 r2 h;go_wp2_with fail;refine(y.out wr).mono ?_;rintro e W ⟨rfl,L⟩;subst W;by_cases q:s'=7
   ·subst q;have e:=h.out;rw[if_pos rfl]at e;clear h;go_wp2;go_ret;exact⟨uD rfl,rfl⟩
   have h7':((s':Int)==7)=false:=(by simp;omega);have h7'':¬(s':Int)=7:=(by omega);have e:=h;rw[if_neg q]at e;have v:=ua e;go_wp2;go_roundw
   case rel=>exact⟨s',A,i+1,by omega,by omega,by omega,rfl,rfl,by go_num,by trivial,v.out⟩
   case measure=>simp[intOf];omega
  have hlt':¬(i:Int)<l.length:=by omega
  have e:=j.out;rw[List.drop_of_length_le (by omega),uv]at e;by_cases f:s=0
  ·subst f;rw[if_pos rfl]at e;go_wp2;go_ret;exact⟨uD rfl,rfl⟩
  have h0':((s:Int)==0)=false:=by simp;omega
  have h0'':¬(s:Int)=0:=by omega
  rw[if_neg f]at e;go_wp2;go_ret;exact⟨uD rfl,rfl⟩
def NmsA(Q:Nat->Prop)(w:World)(a:Option Addr)(d:List (List Int)):Prop :=
 d = []\/∃b off,a=some ⟨b,off,none⟩/\∀i z,d[i]?=some z->∃c e,w.cell? ⟨b,off+i,none⟩=some (.slice c z.length e)/\Ints Q .u8 w c z.length (lf z)
theorem NmsA.later{Q w w' a c}(h:NmsA Q w a c)(t:Below w.heap.size w w'):NmsA Q w' a c:=by
 rcases h with h|⟨b,off,e,h⟩
 ·exact .inl h
 refine .inr ⟨b,off,e,λi z g=>?_⟩;obtain⟨j,k,d,f⟩:=h i z g;exact⟨j,k,ue d t,f.later t⟩
theorem NmsA.at{Q w a c}(h:NmsA Q w a c){i}(e:i<c.length):∃b off,a=some ⟨b,off,none⟩/\∀i z,c[i]?=some z->∃d f,w.cell? ⟨b,off+i,none⟩=some (.slice d z.length f)/\Ints Q .u8 w d z.length (lf z):=by
 rcases h with h|h
 ·subst h;simp at e
 exact h
def BytL(z:List Int):Prop:=∀x∈z,0<=x/\x<=255
theorem BytL.byt{z}(h:BytL z):Byt z.length (lf z):=λi a=>by
 unfold lf;rw[List.getD_eq_getElem?_getD,List.getElem?_eq_getElem a];exact h _ (List.getElem_mem a)
theorem ueW{y z}(e:BytL y)(f:BytL z):str y.length (lf y)=str z.length (lf z)↔y=z:=by
 rw[ust _ _ _ _ e.byt f.byt];constructor
 ·rintro⟨b,c⟩;refine List.ext_getElem b (λi a d=>?_);have:=c i a;unfold lf at this;simpa[List.getD_eq_getElem?_getD,a,d] using this
 rintro rfl;exact⟨rfl,λ_ _=>rfl⟩
theorem umM{a b:ByteArray}(h:a.toList=b.toList):a=b:=by
 rw[ByteArray.toList_eq,ByteArray.toList_eq]at h;exact ByteArray.ext (Array.ext' h)
def xC(z:List Int):List (List Int)->Nat->Int
 |[],_=>-1
 |y::r,i=>if y=z then i else xC z r (i+1)
theorem jQ Q Q' d z a g c j w(I:NmsA Q w a d)(J:Ints Q' .u8 w g z.length (lf z))(L:∀y∈d,BytL y)(N:BytL z)(U:d.length<=1048576) :
  Calls Tryz.prog 25 #[.slice a d.length c,.slice g z.length j] w λe w'=>e=.returned (.int .i64 (xC z d 0))/\∃m,w'=w.drewN m:=by
 have F:=ua I;have o:Hid (∀m,(convert 22 9 (.slice g z.length j)).run Tryz.prog (w.drewN m)=.ok (.string (str z.length (lf z))) (w.drewN m)):=λm=>vo Q' g z.length j (lf z) _ (J.later (below_drewN (Below.refl _ w) m))
 have C:=ua L;obtain⟨R,B⟩:=nm (xC z d 0);rw[B];go_enter Tryz.func25,Tryz.ntmps25;go_wp2;go_loopw [5] (λx wr=>∃(i m:Nat),i<=d.length/\x=.int .i64 i/\wr=w.drewN m/\xC z (d.drop i) i=R) (λx _=>d.length-(intOf x).toNat)
 case atStart=>exact⟨0,0,by omega,rfl,rfl,B⟩
 case round =>
  obtain⟨i,m,T,rfl,rfl,P⟩:=hrel;have A:=ua P;by_cases p:i<d.length
  ·have hlt':(i:Int)<d.length:=(by omega);obtain⟨b,off,rfl,O⟩:=F.at p;obtain⟨y,r⟩:∃y,d[i]?=some y:=⟨_,List.getElem?_eq_getElem p⟩;obtain⟨s,t,Z,H⟩:=O i y r;have l:Hid (∀m,(convert 22 9 (.slice s y.length t)).run Tryz.prog (w.drewN m)=.ok (.string (str y.length (lf y))) (w.drewN m)):=λm=>vo Q s y.length t (lf y) _ (H.later (below_drewN (Below.refl _ w) m))
   have k:=ua (ueW (C y (List.mem_of_getElem? r)) N);have h:Hid ((if y=z then (i:Int) else xC z (d.drop (i+1)) (i+1))=R):=by
    have:=A;rw[xj r,xC]at this;exact this
   have V:∀n,(convert 22 9 (.slice s y.length t)).run Tryz.prog ((w.drewN m).drewN n)=.ok (.string (str y.length (lf y))) ((w.drewN m).drewN n):=λn=>by rw[World.drewN_drewN];exact l _
   have X:∀n,(convert 22 9 (.slice g z.length j)).run Tryz.prog ((w.drewN m).drewN n)=.ok (.string (str z.length (lf z))) ((w.drewN m).drewN n):=λn=>by rw[World.drewN_drewN];exact o.out _
   have G:Hid (∀n,∃q,(w.drewN m).drewN n=w.drewN q):=λn=>⟨_,World.drewN_drewN _ _ _⟩
   have W:=l.out;have Y:=o.out;clear l o;generalize str y.length (lf y)=u at *;generalize str z.length (lf z)=v at *;by_cases f:y=z
   ·have e:=h.out;rw[if_pos f]at e;have E:Hid ((i:Int)=R):=e;obtain rfl:u=v:=k.out.2 f;clear h e f k;go_wp2;go_quiet (fail);go_wp2;go_ret;exact⟨uD E.out,G.out _⟩
   have e:=h.out;rw[if_neg f]at e;have D:Hid (xC z (d.drop (i+1)) (i+1)=R):=e;have S:¬u=v:=λq=>f (k.out.1 q)
   have hs':(u.toList==v.toList)=false:=by
    rw[beq_eq_false_iff_ne];exact λq=>S (umM q)
   clear h e f;go_wp2;go_quiet (fail);go_wp2;exact⟨⟨i+1,m+nq,p,by simp,rfl,D.out⟩,by simp[intOf];omega⟩
  have hlt':¬(i:Int)<d.length:=by omega
  have e:=A.out;rw[List.drop_of_length_le (by omega),xC]at e;go_wp2;go_ret;exact⟨uD rfl,m,rfl⟩
end Go.Proofs.YtimfigongapdnaaGreat
