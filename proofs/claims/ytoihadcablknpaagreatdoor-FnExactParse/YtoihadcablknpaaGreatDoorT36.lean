import Derived.Test.YtoihadcablknpaaGreatDoorT33
set_option linter.unusedVariables false
set_option linter.unusedSimpArgs false
set_option linter.defProp false
set_option maxHeartbeats 40000000
set_option maxRecDepth 100000
namespace Go.Proofs.YtoihadcablknpaaGreatDoor
open Go.RowKit
open Go.Proofs.Tryz
section
open M (OpD uh Gr)
abbrev Lr(T:TypeId)(zs:Av)(ty:TypeId)(v:Vl)(w:Wl):Prop:=(Instr.typeAssert (.iface ty v) 235 T true).run prog w=if ty=T then .ok (.tuple #[v,Bt]) w else .ok (.tuple #[.agg zs,Bf]) w
def Ny{T ty:TypeId}{fs}{zs:Av}{v:Vl}{w:Wl}(a:prog.underlying T=some (.struct fs))(z:(zeroValue T).run prog w=.ok (.agg zs) w):Lr T zs ty v w:=by
 by_cases h:ty=T<;>simp[Lr,Instr.typeAssert,run_underlying a,h,z]
def uuT ty v w:Lr 278 #[nS] ty v w:=Ny underlying278 rR
def uuU ty v w:Lr 280 #[.string ⟨#[]⟩] ty v w:=Ny underlying280 rR
def uuV ty v w:Lr 282 #[.string ⟨#[]⟩] ty v w:=Ny underlying282 rR
def uuW ty v w:Lr 284 #[.nilIface,.nilIface] ty v w:=Ny underlying284 rR
def uuX ty v w:Lr 285 #[.nilIface,.nilIface] ty v w:=Ny underlying285 rR
def uuY ty v w:Lr 287 #[.nilIface] ty v w:=Ny underlying287 rR
def uuZ ty v w:Lr 288 #[.nilIface] ty v w:=Ny underlying288 rR
abbrev Lo(w:Wl):Nat->Prop:=λb=>b<w.heap.size
def Li(w:Wl):Nat->Prop:=λb=>b<w.heap.size/\∃o v,w.cell? (Ad b o)=some (Iv v)
def zu{Q w a n S}(h:wB Q .i64 w a n S):wB (Li w) .i64 w a n S:=by
 rcases h with h|⟨b,off,e,d,h⟩
 ·exact .inl h
 by_cases c:n=0
 ·exact .inl c
 have:=h 0 oM;exact .inr ⟨b,off,e,⟨ud this,_,_,this⟩,h⟩
inductive TrV(w:World)(rs ls:List (List Int)):Value->List OpD->Prop
 |set (z:LI) (a:Oa) (c:Nat):wB (Li w) .i64 w a z.length (lf z)->TrV w rs ls (.iface 278 (.agg #[Sl a z.length c])) (vr z)
 |ref (z:LI):z∈rs->TrV w rs ls (.iface 280 (.agg #[.string (str z.length (lf z))])) (uN 2 (uU z rs 0))
 |thr (z:LI):z∈ls->TrV w rs ls (.iface 282 (.agg #[.string (str z.length (lf z))])) (uN 3 (uU z ls 0))
 |seq (t u t' u') (D D':List OpD):TrV w rs ls (.iface t u) D->TrV w rs ls (.iface t' u') D'->TrV w rs ls (.iface 284 (.agg #[.iface t u,.iface t' u'])) (vU 4 D D')
 |alt (t u t' u') (D D':List OpD):TrV w rs ls (.iface t u) D->TrV w rs ls (.iface t' u') D'->TrV w rs ls (.iface 285 (.agg #[.iface t u,.iface t' u'])) (vU 5 D D')
 |star (t u) (D:List OpD):TrV w rs ls (.iface t u) D->TrV w rs ls (.iface 287 (.agg #[.iface t u])) (Bu 6 D)
 |not (t u) (D:List OpD):TrV w rs ls (.iface t u) D->TrV w rs ls (.iface 288 (.agg #[.iface t u])) (Bu 7 D)
 |emp:TrV w rs ls Mu (uN 0 0)
def zw z x y:yi ((z++[x])++[y])=vU 4 (yi (z++[x])) (vr (yB y)):=by
 cases z with
 |nil=>rfl
 |cons c r =>
  simp only[Cb,yi];rw[List.foldl_append];simp[vU]
section
variable {X:Np} {w:Wl} {rs ls:List LI} {v:Vl}
def De.b{z:LI}(h:De X w z v):TrV w rs ls v (vr z):=let ⟨a,c,e,h⟩:=h;e▸.set z a c (zu h)
def Br.b:∀(z:LI) {v:Vl},Br X w z v->TrV w rs ls v (yi z.reverse)
 |[],v,h=>(show v=Mu from h)▸.emp
 |[x],v,h=>De.b h
 |y::x::r,v,⟨u,u',e,h4,h5⟩=>by
  have d:=Br.b (x::r) h4;have f:TrV w rs ls u' _:=h5.b;obtain⟨t,c,rfl⟩:=h4.a;obtain⟨_,_,rfl,_⟩:=h5;rw[List.reverse_cons]at d;rw[List.reverse_cons,List.reverse_cons,zw,e];exact .seq _ _ _ _ _ _ d f
def Ev.b{e:PE}(h:Ev X w e v)(f:∀t∈e.b,t.nm∈rs)(g:∀t∈e.a,t.nm∈ls):TrV w rs ls v (e.e rs ls):=by
 induction e generalizing v with
 |ref t=>exact(show v=_ from h)▸.ref t.nm (f t (by simp[PE.b]))
 |thr c t=>exact(show v=_ from h)▸.thr t.nm (g t (by simp[PE.a]))
 |str t=>have:=Br.b (rs:=rs) (ls:=ls) _ h;rwa [List.reverse_reverse]at this
 |cls|dot=>exact De.b h
 |grp _ _ _ d=>exact d h f g
 |emp=>exact(show v=Mu from h)▸.emp
 |star _ _ d|not _ _ d|amp _ _ d|opt _ _ d =>
  obtain⟨u,rfl,h⟩:=h;obtain⟨t,c,rfl⟩:=h.a;have:=d h f g;first|exact .star _ _ _ this|exact .not _ _ _ this|exact .not _ _ _ (.not _ _ _ this)|exact .alt _ _ _ _ _ _ this .emp
 |seq a b i1 i2|alt a _ b i1 i2 =>
  obtain⟨u,m,rfl,i,j⟩:=h;obtain⟨t,c,rfl⟩:=i.a;obtain⟨l,k,rfl⟩:=j.a;have A:=i1 i (λt q=>f t (by simp[PE.b,q])) (λt q=>g t (by simp[PE.a,q]));have B:=i2 j (λt q=>f t (by simp[PE.b,q])) (λt q=>g t (by simp[PE.a,q]));first|exact .seq _ _ _ _ _ _ A B|exact .alt _ _ _ _ _ _ A B
end
def Lf(w:Wl):List OpD->List Value->Prop
 |[],cs=>cs = []
 |d::r,cs=>∃a c b,cs = [Iv d.e,.slice a d.sl c,Iv d.f]++b/\wB (Li w) .i64 w a d.sl d.set/\Lf w r b
def Lf.d{w d a c}(h:wB (Li w) .i64 w a d.sl d.set):∀{b:List OpD} {cs:List Value},Lf w b cs->Lf w (b++[d]) (cs++[Iv d.e,Sl a d.sl c,Iv d.f])
 |[],_,e=>⟨a,c,[],by rw[show _ = [] from e];simp,h,rfl⟩
 |_::_,_,⟨a',c',cs',e,h1,h2⟩=>⟨a',c',cs'++[Iv d.e,.slice a d.sl c,Iv d.f],by rw[e];exact zU _ _ _,h1,Lf.d h h2⟩
structure Kl(w1:Wl)(O:Np)(W:Wl)(v:Vl)(os:List OpD):Prop where
 r:∃cs,wC O W v 3 os.length cs/\Lf w1 os cs
 o:∀b,O b->w1.heap.size<=b/\b<W.heap.size
section
variable {w1 W W':Wl} {O O':Np} {v:Vl} {os:List OpD} {a:Oa} {c:Nat} {P:Ew} {b1 b2:Nat} {rs ls:List LI}
def Kl.kp(h:Kl w1 O W v os)(k:Kf W W'):Kl w1 O W' v os :=
 ⟨let ⟨cs,h1,h2⟩:=h.r;⟨cs,h1.on (λb q=>k.d b (h.o b q).2 (λe=>e)),h2⟩,λb q=>⟨(h.o b q).1,wX (h.o b q).2 k.h⟩⟩
def Kl.app(h:Kl w1 O W v os)(d:OpD)(a:Oa)(c:Nat)(y:wB (Li w1) .i64 w1 a d.sl d.set)(s:os.length<=1000000)(z:w1.heap.size<=W.heap.size) :
  ∃g i W' m,(Builtin.append_ #[48,48] 48 #[v,Sl (Sm W.heap.size 0) 1 1]).run prog (W.alloc (Oc #[Iv d.e,Sl a d.sl c,Iv d.f] 128))=.ok (Sl g (os++[d]).length i) W'/\Kl w1 m W' (Sl g (os++[d]).length i) (os++[d])/\Ay O W m W':=by
 obtain⟨cs,n,p⟩:=h.r;obtain⟨g,i,W',w,t,k⟩:=qW (o:=.cells #[Iv d.e,Sl a d.sl c,Iv d.f] 128) (news:=[Iv d.e,Sl a d.sl c,Iv d.f]) Nh n (λb q=>(h.o b q).2) (vC underlying48 rfl (λj u l=>by rw[(um W _ 128).x.1 j,<-l];simp) (λu l=>by
   simp only[Bx,Jp,or_false]at l;rcases l with rfl|rfl|rfl<;>rfl)) s oM
 refine⟨g,i,W',λb=>(O b\/W.heap.size<=b)/\b<W'.heap.size,?_,⟨⟨cs++[Iv d.e,Sl a d.sl c,Iv d.f],?_,Lf.d (c:=c) y p⟩,λb q=>⟨q.1.elim (λq=>(h.o b q).1) (wN z),q.2⟩⟩,⟨k,λb q=>q.1⟩⟩
 ·rw[wK];exact w
 rw[wK];exact t
def AO(w1:Wl)(b1 e:Nat)(v:Vl)(D:List OpD):Prop:=∀(W:Wl) (v0:Vl) (b:List OpD) (O:Np) (P:Ew),Kf w1 W->Kl w1 O W v0 b->b.length+D.length<=1000000 ->
 (∀a c W' d,Kl w1 d W' (Sl a (b++D).length c) (b++D)->Ay O W d W'->P (Rt (Sl a (b++D).length c)) W')->Cs 126 #[.agg #[.map (some b1),.map (some e)],v0,v] W P
def OP args w:(callFunc 126 args).run prog w=.ok (.enter 126 args) w:=by simp[callFunc,func126,f126,go_sem]
def Ay.f(h:Ay O W O' W')(k:Kf w1 W)(a:∀b,O b->w1.heap.size<=b):Kf w1 W' :=
 ((⟨k,λb q=>.inr (a b q)⟩:Ay (λ_=>False) w1 O W).c h).kp
attribute [local go_sem] uuT uuU uuV uuW uuX uuY uuZ
def zx(z:LI)(a:Oa)(c:Nat)(h:wB (Li w1) .i64 w1 a z.length (lf z)):AO w1 b1 b2 (.iface 278 (.agg #[Sl a z.length c])) (vr z):=by
 intro W v0 b O P A e w p;have u:=ua p;have m:b.length<=1000000:=oM;obtain⟨I,J,y⟩:=uq e.r.choose_spec.1;generalize f:(W.alloc (Oc #[.map (some b1),.map (some b2)] 185)).alloc (Oc #[Sl a z.length c] 278)=X;have g:Kf W X:=f▸wU.c wU;obtain⟨G,F,B⟩:=(f▸(um W _ 185).al _:wJ X W.heap.size #[.map (some b1),.map (some b2)]).x;obtain⟨H,p1,C⟩:=(f▸uV (W.alloc (Oc #[.map (some b1),.map (some b2)] 185)) #[Sl a z.length c] 278 (W.heap.size+1) sM:wJ X (W.heap.size+1) #[Sl a z.length c]).x;obtain⟨i,j,W',v,n,k,o⟩:=(e.kp g).app (Qx z) a c (h) m (A.c g).h;have s:Hid (P (Rt (Sl i (b++[Qx z]).length j)) W'):=u.o i j W' v k ((Ay.d (g.l (λ_ q=>q.elim))).c o);have t:=ua n;subst y;clear p n k o e m w;generalize (b++[Qx z]).length=E at *;generalize b.length=D at *;go_enter func126,ntmps126;go_wp2_with (first
  |(at_builtin;refine Mt rfl _ _ rfl rfl rfl t.o ?_))
 exact s.o
def OQ{T:TypeId}{k:Int}{o:Nat}(R:T=280/\k=2/\o=b1\/T=282/\k=3/\o=b2)(g:wV w1 o rs (zX rs))(z:LI)(h:z∈rs):AO w1 b1 b2 (.iface T (.agg #[.string (str z.length (lf z))])) (uN k (uU z rs 0)):=by
 intro W v0 b O P E s S G;have L:=ua G;have C:b.length<=1000000:=oM;obtain⟨aa,ab,U⟩:=uq s.r.choose_spec.1;obtain⟨w,v⟩:=nm (str z.length (lf z));have I:=ua v;rw[v];generalize t:(W.alloc (Oc #[.map (some b1),.map (some b2)] 185)).alloc (Oc #[.string w] T)=X;have i:Kf W X:=t▸wU.c wU;obtain⟨q0,p0,V⟩:=(t▸(um W _ 185).al _:wJ X W.heap.size #[.map (some b1),.map (some b2)]).x;obtain⟨q1,p1,Y⟩:=(t▸uV (W.alloc (Oc #[.map (some b1),.map (some b2)] 185)) #[.string w] T (W.heap.size+1) sM:wJ X (W.heap.size+1) #[.string w]).x;obtain⟨n,p,W',N,D,B,F⟩:=(s.kp i).app (zY k (uU z rs 0)) none 0 (.inl rfl) C (E.c i).h;have H:Hid (P (Rt (Sl n (b++[zY k (uU z rs 0)]).length p)) W'):=L.o n p W' N B ((Ay.d (i.l (λ_ q=>q.elim))).c F);have m:=ua D;have J:=ua (g.on ((E.c i).d _ g.lt (λe=>e)));have y:Hid (((Nj rs (zX rs) z:Nat):Int)=uU z rs 0):=(by show _=_;rw[BW h,Nj,Zp h,zL]);have A:=ua (show wW z/\z.length<=1000000 from ⟨g.j z h,g.f z h⟩);obtain⟨Q,u⟩:=nm (uU z rs 0);have m:Hid ((Builtin.append_ #[48,48] 48 #[v0,Sl (Sm X.heap.size 0) 1 1]).run prog (X.alloc (Oc #[Iv k,nS,Iv Q] 128))=.ok (Sl n (b++[zY k (uU z rs 0)]).length p) W'):=(by rw[<-u];exact m.o);rw[u]at y;clear u v;subst U;clear G D B F s C S;generalize (b++[zY k (uU z rs 0)]).length=nn at *;generalize b.length=Z at *;rcases R with⟨rfl,rfl,rfl⟩|⟨rfl,rfl,rfl⟩;all_goals
  go_enter func126,ntmps126;go_wp2_with (first
   |(at_builtin;refine Mt rfl _ _ rfl rfl rfl m.o ?_)
   |(at_lookup;refine FG _ rfl _ _ rfl _ rs (zX rs) z rfl J.o (by rw[I.o];rfl) A.o.1 A.o.2 ?_;rw[y.o]))
  exact H.o
def zy  : AO w1 b1 b2 (Mu) (uN 0 0):=by
 intro W v0 b O P z e w p;have u:=ua p;have m:b.length<=1000000:=oM;obtain⟨F,G,y⟩:=uq e.r.choose_spec.1;generalize k:(W.alloc (Oc #[.map (some b1),.map (some b2)] 185))=X;have f:Kf W X:=k▸wU;obtain⟨E,D,A⟩:=(k▸um W _ 185:wJ X W.heap.size #[.map (some b1),.map (some b2)]).x;obtain⟨g,i,W',v,n,j,o⟩:=(e.kp f).app (zY 0 0) none 0 (.inl rfl) m (z.c f).h;have s:Hid (P (Rt (Sl g (b++[zY 0 0]).length i)) W'):=u.o g i W' v j ((Ay.d (f.l (λ_ q=>q.elim))).c o);have t:=ua n;subst y;clear p n j o e m w;generalize (b++[zY 0 0]).length=C at *;generalize b.length=B at *;go_enter func126,ntmps126;go_wp2_with (first
  |(at_builtin;refine Mt rfl _ _ rfl rfl rfl t.o ?_))
 exact s.o
def OR{t T:TypeId}{k:Int}{u:Vl}{D:List OpD}(V:T=287/\k=6\/T=288/\k=7)(H:AO w1 b1 b2 (.iface t u) D):AO w1 b1 b2 (.iface T (.agg #[.iface t u])) (Bu k D):=by
 intro W v0 e O P n g A E;have L:=ua E;have m:e.length+D.length<=1000000:=by simp[Bu]at A;omega
 obtain⟨aa,ab,Y⟩:=uq g.r.choose_spec.1;generalize j:(W.alloc (Oc #[.map (some b1),.map (some b2)] 185)).alloc (Oc #[.iface t u] T)=X;have i:Kf W X:=j▸wU.c wU;obtain⟨q0,p0,l0⟩:=(j▸(um W _ 185).al _:wJ X W.heap.size #[.map (some b1),.map (some b2)]).x;obtain⟨q1,p1,l1⟩:=(j▸uV (W.alloc (Oc #[.map (some b1),.map (some b2)] 185)) #[.iface t u] T (W.heap.size+1) sM:wJ X (W.heap.size+1) #[.iface t u]).x;have v:=ua (λQ=>H X v0 e O Q (n.c i) (g.kp i) m);have G:=ua g.o;have w:=ua i;have J:=ua n;have F:=ua m;subst Y;clear E g A m i n H;generalize e.length=n0 at v;rcases V with⟨rfl,rfl⟩|⟨rfl,rfl⟩;all_goals
  go_enter func126,ntmps126;go_wp2_with fail;refine v.o _ λa c U Z y p=>?_
  obtain⟨R,S,W',N,B,z,C⟩:=y.app (zY _ 0) none 0 (.inl rfl) (by rw[wK];exact F.o) (p.f (J.o.c w.o) (λb q=>(G.o b q).1)).h;have s:=ua (L.o R S W' N (by rw[Bu,<-zU];exact z) (((Ay.d (w.o.l (λ_ q=>q.elim))).c p).c C));have I:=ua B;rw[Bu,<-zU]at s;clear B z C y p;generalize ((e++D)++[zY _ 0]).length=nn at *;generalize (e++D).length=n1 at *;go_wp2_with (at_builtin;refine Mt rfl _ _ rfl rfl rfl I.o ?_);exact s.o
def OS{t g T:TypeId}{k:Int}{u i:Vl}{D m:List OpD}(hT:T=284/\k=4\/T=285/\k=5)(H:AO w1 b1 b2 (.iface t u) D)(B:AO w1 b1 b2 (.iface g i) m):AO w1 b1 b2 (.iface T (.agg #[.iface t u,.iface g i])) (vU k D m):=by
 intro W v0 e O P z n S aa;have NX:=ua aa;have V:e.length+D.length+m.length<=1000000:=by simp[vU]at S;omega
 obtain⟨ad,ae,ac⟩:=uq n.r.choose_spec.1;generalize p:(W.alloc (Oc #[.map (some b1),.map (some b2)] 185)).alloc (Oc #[.iface t u,.iface g i] T)=X;have s:Kf W X:=p▸wU.c wU;have w:Hid (wJ X W.heap.size #[.map (some b1),.map (some b2)]):=p▸(um W _ 185).al _;have y:Hid (wJ X (W.heap.size+1) #[.iface t u,.iface g i]):=p▸uV (W.alloc (Oc #[.map (some b1),.map (some b2)] 185)) #[.iface t u,.iface g i] T (W.heap.size+1) sM;obtain⟨q0,p0,l0⟩:=w.o.x;obtain⟨q1,p1,l1⟩:=y.o.x;have E:=ua (λP'=>H X.drew v0 e O P' ((z.c s).c (Bz _)) ((n.kp s).kp (Bz _)) oM);have I:=ua n.o;have J:=ua (s.c (Bz _));have KW:=ua z;have F:=ua V;have HD:=ua B;subst ac;clear aa n S V s z H B;generalize e.length=n0 at E;rcases hT with⟨rfl,rfl⟩|⟨rfl,rfl⟩;all_goals go_enter func126,ntmps126
 all_goals go_wp2_with fail
 all_goals clear p
 all_goals go_region_law (first
  |(refine yp OP rfl _ _ rfl (ys:=#[.agg #[.map (some b1),.map (some b2)],Sl ad n0 ae,.iface t u]) (by simp[Act.eval,Act.put]) (E.o _ λa c U O1 N v=>⟨_,rfl,?_⟩);have st:=λb (h:W.heap.size<=b) (hb:b<X.heap.size)=>v.kp.d b hb (λq=>oH ((I.o b q).2));obtain⟨q2,p2,l2⟩:=(w.o.a (st _ wF w.o.x.2.2)).x;obtain⟨q3,p3,l3⟩:=(y.o.a (st _ (Gw _) y.o.x.2.2)).x;have C:=ua N;have M1:=ua v;have kU:=ua (v.f (KW.o.c J.o) (λb q=>(I.o b q).1));clear N v st;generalize Y:(e++D).length=n1 at *;have G:=ua Y;clear Y)
  |(refine yp OP rfl _ _ rfl (ys:=#[.agg #[.map (some b1),.map (some b2)],Sl a n1 c,.iface g i]) (by simp[Act.eval,Act.put]) (HD.o _ _ (e++D) O1 _ kU.o C.o (by rw[G.o];have:=F.o;have:=G.o;rw[wK]at this;omega) λa2 c2 U2 O2 Q m2=>⟨_,rfl,?_⟩);have H2:=ua Q;have L:=ua m2;clear Q m2;generalize Z:((e++D)++m).length=n2 at *;have ab:=ua Z;clear Z q2 p2 l2 q3 p3 l3))
 all_goals (
  obtain⟨a',c',W',O',hr,R,m3⟩:=H2.o.app (zY _ 0) none 0 (.inl rfl) (by have:=ab.o;have:=F.o;simp only[wK]at *;omega) (L.o.f kU.o (λb q=>(C.o.o b q).1)).h;have A:=ua (NX.o a' c' W' O' (by rw[vU,<-zU,<-zU];exact R) ((((Ay.d (J.o.l (λ_ q=>q.elim))).c M1.o).c L.o).c m3));have HR:=ua hr;rw[vU,<-zU,<-zU]at A;clear hr R m3;generalize (((e++D)++m)++[zY _ 0]).length=nn at *;go_wp2_with (at_builtin;refine Mt rfl _ _ rfl rfl rfl HR.o ?_);exact A.o)
def uts(f:wV w1 b1 rs (zX rs))(g:wV w1 b2 ls (zX ls)){D:List OpD}(h:TrV w1 rs ls v D):AO w1 b1 b2 v D:=by
 induction h with
 |set z a c h=>exact zx z a c h
 |ref z h=>exact OQ (.inl ⟨rfl,rfl,rfl⟩) f z h
 |thr z h=>exact OQ (.inr ⟨rfl,rfl,rfl⟩) g z h
 |seq _ _ _ _ _ _ _ _ b d=>exact OS (.inl ⟨rfl,rfl⟩) b d
 |alt _ _ _ _ _ _ _ _ b d=>exact OS (.inr ⟨rfl,rfl⟩) b d
 |star _ _ _ _ e=>exact OR (.inl ⟨rfl,rfl⟩) e
 |not _ _ _ _ e=>exact OR (.inr ⟨rfl,rfl⟩) e
 |emp=>exact zy
end
end
section
open M (OpD uh Gr)
def PI w{z}(h:wW z):∃nc W',(convert 9 22 (.string (str z.length (lf z)))).run prog w=.ok (Sl (Sm w.heap.size 0) z.length nc) W'/\wB (λb=>b=w.heap.size) .u8 W' (Sm w.heap.size 0) z.length (lf z)/\Kf w W'/\W'.heap.size=w.heap.size+1:=by
 have e:=Lib.run_convert_string_bytes (P:=prog) w 9 22 5 (str z.length (lf z)) underlying9 underlying22 underlying5;have d:=Wp z.length (lf z);rw[d]at e;have g:=Lib.bytesWorld_size w 5 (str z.length (lf z));refine⟨_,_,e,.inr ⟨w.heap.size,0,rfl,rfl,λj c=>?_⟩,⟨rfl,rfl,rfl,oM,λk f _=>Lib.bytesWorld_at_old w 5 _ k f⟩,g⟩;rw[zL,Lib.bytesWorld_cell w 5 _ j (by rw[d];exact c)];have a:(i8 (u8 z))[j]?=z[j]?:=by rw[Sb h]
 unfold i8 u8 at a;rw[Du,zG c]at a;have hj':j<(str z.length (lf z)).data.toList.length:=by rw[Ku];show j<(str z.length (lf z)).size;rw[d];exact c
 rw[zG hj']at a;simp only[Option.map_some,Option.some.injEq]at a;rw[Cx,zG hj'];simp only[Option.getD_some];rw[a,show lf z j=z[j] by unfold lf;rw[Cx,zG c];rfl]
def PJ{ops:Array Oper}{rest o a b w W' v r}(d:o.guard=none)x(e:o.op=.convert 9 22 x)(g:a.eval x=v)(f:(convert 9 22 v).run prog w=.ok r W')(k:wpList prog ops b rest (a.put o.dst r) W'):wpList prog ops b (o::rest) a w:=by
 refine wpList_plain d λK c=>?_
 unfold Oper.wp execOp;simp only[e,Fa,Gc,Gk,g,f];exact c _ _ k
abbrev Ou(w0:Wl)(Z:Np)(W:Wl):Nat->Prop:=λb=>Out Z W b/\(w0.heap.size<=b\/Li w0 b)
structure NB(w0:Wl)(Z:Np)(W:Wl)(x:NL)(na:Oa)(ba:Oa)(bc:Nat):Prop where
 nm:wB (Ou w0 Z W) .u8 W na x.nm.length (lf x.nm)
 bd:wT (Ou w0 Z W) W ba x.bd.length (df x.bd)
 p:x.bd.length<=bc
section
variable {Z Z' Q O:Np} {w1 W W':Wl} {x:NL} {na ba a:Oa} {bc n c:Nat} {os:List OpD}
def Ou.mv(m:Ay Z W Z' W'):∀b,Ou w1 Z W b->Ou w1 Z' W' b:=λb a=>⟨⟨wX a.1.1 m.kp.h,λq=>(m.nw b q).elim a.1.2 (λq=>oH a.1.1)⟩,a.2⟩
def CA{B:Nat->OpD}(h:wT (Ou w1 Z W) W a n B)(m:Ay Z W Z' W'):wT (Ou w1 Z' W') W' a n B:=(h.on (λb c=>m.kp.d b c.1.1 c.1.2)).g (Ou.mv m)
def NB.mv(h:NB w1 Z W x na ba bc)(m:Ay Z W Z' W'):NB w1 Z' W' x na ba bc:=⟨(h.nm.on (λb a=>m.kp.d b a.1.1 a.1.2)).g (Ou.mv m),CA h.bd m,h.p⟩
def Lf.at{w}:∀{g:List OpD} {cs:List Value},Lf w g cs->cs.length=g.length*3/\∀{k:Nat} {d:OpD},g[k]?=some d->∃a c,wB (Li w) .i64 w a d.sl d.set/\cs[k*3]?=some (Iv d.e)/\cs[k*3+1]?=some (Sl a d.sl c)/\cs[k*3+2]?=some (Iv d.f)
 |[],cs,h=>⟨by rw[show cs = [] from h];rfl,λb=>by simp at b⟩
 |y::r,_,⟨a,c,cs',rfl,h1,h2⟩=>by
  have i:=Lf.at h2;refine⟨by rw[wK,i.1,zQ];simp;omega,λ{k d} b=>?_⟩;cases k with
  |zero =>
   obtain rfl:y=d:=(by simpa using b);exact⟨a,c,h1,rfl,rfl,rfl⟩
  |succ k =>
   obtain⟨l,q,m,n,o,p⟩:=i.2 (k:=k) (by simpa using b);have e:∀j,([Iv y.e,Sl a y.sl c,Iv y.f]++cs')[(k+1)*3+j]?=cs'[k*3+j]?:=λj=>by
    rw[Di sO];congr 1;simp;omega
   exact⟨l,q,m,(e 0).trans n,(e 1).trans o,(e 2).trans p⟩
def Kl.e(h:Kl w1 O W (Sl a n c) os)(k:Kf w1 W)(w:∀b,O b->Q b)(v:∀b,Li w1 b->Q b):wT Q W a os.length (df os)/\os.length<=c:=by
 obtain⟨cs,s,t⟩:=h.r;rcases s with⟨e,f,_⟩|⟨g,cap,e,A,B,u,j,C⟩
 ·exact⟨.inl f,by injection e with _ _ e;omega⟩
 injection e with f e2 e3;subst f e3;refine⟨.inr ⟨g,0,rfl,w g A,λi z=>?_⟩,u⟩;have y:os[i]?=some (df os i):=by unfold df;rw[Cx,zG z];rfl
 obtain⟨l,q,b1,m,o,p⟩:=t.at.2 y;rw[zL];exact⟨(j _ oM).trans m,⟨l,q,(j _ oM).trans o,(b1.on (λb x=>k.d b x.1 (λe=>e))).g v⟩,(j _ oM).trans p⟩
end
def ZB(a:Wl)(A:Np):Nat->Prop:=λb=>(a.heap.size<=b/\b<a.heap.size+5)\/A b
structure Ls(W0:Wl)(Z:Np)(W:Wl)(c:Av)(ls:List NL):Prop where
 sz:c.size=ls.length*3
 f:∀i x,ls[i]?=some x->∃na nc ba bc,c[i*3]?=some (Sl na x.nm.length nc)/\c[i*3+1]?=some (.bool x.h)/\c[i*3+2]?=some (Sl ba x.bd.length bc)/\NB W0 Z W x na ba bc
def Iu(a:Wl)(Z:Np)(W:Wl):List NL->List Value->Prop
 |[],cs=>cs = []
 |x::r,cs=>∃na nc ba bc b,cs = [.slice na x.nm.length nc,.slice ba x.bd.length bc]++b/\NB a Z W x na ba bc/\Iu a Z W r b
section
variable {Z Z' A A':Np} {W0 W W':Wl} {c:Av} {ls rs:List NL} {cs:List Value} {x y:NL} {na ba:Oa} {nc bc i j b1 b2:Nat} {rv v:Vl}
def Ls.mv(h:Ls W0 Z W c ls)(m:Ay Z W Z' W'):Ls W0 Z' W' c ls:=⟨h.sz,λi x a=>let ⟨na,nc,ba,bc,h1,h2,h3,h4⟩:=h.f i x a;⟨na,nc,ba,bc,h1,h2,h3,h4.mv m⟩⟩
def Iu.mv(m:Ay Z W Z' W'):∀{rs:List NL} {cs:List Value},Iu W0 Z W rs cs->Iu W0 Z' W' rs cs
 |[],_,h=>h
 |_::_,_,⟨na,nc,ba,bc,cs',e,h1,h2⟩=>⟨na,nc,ba,bc,cs',e,h1.mv m,Iu.mv m h2⟩
def Iu.d(h:NB W0 Z W x na ba bc):∀{rs:List NL} {cs:List Value},Iu W0 Z W rs cs->Iu W0 Z W (rs++[x]) (cs++[Sl na x.nm.length nc,Sl ba x.bd.length bc])
 |[],_,e=>⟨na,nc,ba,bc,[],by rw[show _ = [] from e];simp,h,rfl⟩
 |_::_,_,⟨na',nc',ba',bc',cs',e,h1,h2⟩=>⟨na',nc',ba',bc',cs'++[.slice na x.nm.length nc,.slice ba x.bd.length bc],by rw[e];exact zU _ _ _,h1,Iu.d h h2⟩
def Ls.k(h:Ls W0 Z W c ls)(v:ls[i]?=some x){d:Av}(t:d.size=c.size)(b:∀k,k / 3≠i->d[k]?=c[k]?)(p:d[i*3]?=some (Sl na y.nm.length nc))(r:d[i*3+1]?=some (.bool y.h))(s:d[i*3+2]?=some (Sl ba y.bd.length bc))(u:NB W0 Z W y na ba bc):Ls W0 Z W d (ls.set i y):=by
 refine⟨by rw[t,h.sz,Kq],λk z a=>?_⟩;by_cases e:k=i
 ·subst e;rw[Lz (zT.1 v).1]at a;obtain rfl:y=z:=by simpa using a
  exact⟨na,nc,ba,bc,p,r,s,u⟩
 rw[Ol (λq=>e q.symm)]at a;obtain⟨w,A,n,o,g,j,l,m⟩:=h.f k z a;exact⟨w,A,n,o,(b _ oM).trans g,(b _ oM).trans j,(b _ oM).trans l,m⟩
structure BU(W0:Wl)(b1 b2:Nat)(W:Wl)(A:Np)(rv:Vl)(c:Av)(rs ls:List NL):Prop where
 kp:Kf W0 W
 e:wJ W W0.heap.size #[.map (some b1),.map (some b2)]
 g:wJ W (W0.heap.size+1) #[nS,nS]
 d:wJ W (W0.heap.size+2) c
 h:wJ W (W0.heap.size+3) #[rv,Sl (Sm (W0.heap.size+2) 0) ls.length ls.length]
 la:Ls W0 (ZB W0 A) W c ls
 y:∃cs,wC A W rv 2 rs.length cs/\Iu W0 (ZB W0 A) W rs cs
 a:∀b,A b->W0.heap.size+5<=b/\b<W.heap.size
def BU.sz(h:BU W0 b1 b2 W A rv c rs ls):W0.heap.size+3<W.heap.size:=h.h.x.2.2
def BU.on(h:BU W0 b1 b2 W A rv c rs ls)(k:wA (λb=>b=W0.heap.size+4) W W'):BU W0 b1 b2 W' A rv c rs ls:=by
 have m:Ay (ZB W0 A) W (ZB W0 A) W':=Ay.d (k.l (λb q=>.inl ⟨by have q:b=_:=q;omega,by have q:b=_:=q;omega⟩));have i:∀b,b<W.heap.size->b≠W0.heap.size+4->W'.heap[b]?=W.heap[b]?:=λb o p=>k.d b o p
 have r:=h.sz;exact⟨⟨k.os.trans h.kp.os,k.g.trans h.kp.g,k.f.trans h.kp.f,wN h.kp.h k.h,λb j n=>(i b (wX j h.kp.h) oM).trans (h.kp.d b j n)⟩,h.e.a (i _ oM oM),h.g.a (i _ oM oM),h.d.a (i _ oM oM),h.h.a (i _ oM oM),h.la.mv m,let ⟨cs,h1,h2⟩:=h.y;⟨cs,h1.on (λb q=>i b (h.a b q).2 (oH ((h.a b q).1))),h2.mv m⟩,λb q=>⟨(h.a b q).1,wX (h.a b q).2 k.h⟩⟩
def BU.set(h:BU W0 b1 b2 W A rv c rs ls)(l:ls[i]?=some x)(k:j<3)(v:Vl)(f:Ls W0 (ZB W0 A) W (c.setIfInBounds (i*3+j) v) (ls.set i y)):BU W0 b1 b2 (W.setCell (Ad (W0.heap.size+2) (i*3+j)) v) A rv (c.setIfInBounds (i*3+j) v) rs (ls.set i y):=by
 have m:Ay (ZB W0 A) W (ZB W0 A) (W.setCell (Ad (W0.heap.size+2) (i*3+j)) v):=Ay.d (zP (.inl ⟨by show _<=W0.heap.size+2;omega,by show W0.heap.size+2<_;omega⟩));exact⟨xB h.kp oM,h.e.h _ _ _ oM,h.g.h _ _ _ oM,h.d.set _ _,by rw[Kq];exact h.h.h _ _ _ oM,f.mv m,let ⟨cs,h1,h2⟩:=h.y;⟨cs,h1.on (λb q=>zJ _ (λe=>by have e:b=W0.heap.size+2:=e;have:=(h.a b q).1;omega)),h2.mv m⟩,λb q=>by rw[uj];exact h.a b q⟩
def BU.k(h:BU W0 b1 b2 W A rv c rs ls)(s:NB W0 (ZB W0 A) W x na ba bc)(C:rs.length<=1000000)(H:W0.heap.size+5<=W.heap.size) :
  ∃i n W' v,(Builtin.append_ #[34,34] 34 #[rv,Sl (Sm W.heap.size 0) 1 1]).run prog (W.alloc (Oc #[Sl na x.nm.length nc,Sl ba x.bd.length bc] 78))=.ok (Sl i (rs++[x]).length n) W'/\wJ W' (W0.heap.size+3) #[rv,Sl (Sm (W0.heap.size+2) 0) ls.length ls.length]/\BU W0 b1 b2 (W'.setCell (Ad (W0.heap.size+3) 0) (Sl i (rs++[x]).length n)) v (Sl i (rs++[x]).length n) c (rs++[x]) ls:=by
 obtain⟨cs,w,z⟩:=h.y;obtain⟨i,n,W',E,D,k⟩:=qW (o:=.cells #[Sl na x.nm.length nc,Sl ba x.bd.length bc] 78) (news:=[Sl na x.nm.length nc,Sl ba x.bd.length bc]) EP w (λb q=>(h.a b q).2) (vC underlying34 rfl (λj u r=>by rw[(um W _ 78).x.1 j,<-r];simp) (λu r=>by
   simp only[Bx,Jp,or_false]at r;rcases r with rfl|rfl<;>rfl)) C oM
 have I:=h.sz;have p:∀b,b<W0.heap.size+5->b<W.heap.size->W'.heap[b]?=W.heap[b]?:=λb J G=>k.d b G (λq=>oH ((h.a b q).1))
 have bv:=h.h.a (p _ oM oM);have m:Ay (ZB W0 A) W (ZB W0 (λb=>(A b\/W.heap.size<=b)/\b<W'.heap.size)) (W'.setCell (Ad (W0.heap.size+3) 0) (Sl i (rs++[x]).length n)) :=
  ⟨(k.l (λb q=>.inr q)).c (zP (.inl ⟨by show _<=W0.heap.size+3;omega,by show W0.heap.size+3<_;omega⟩)),λb q=>q.elim (λq=>.inl (.inl q)) (λq=>q.1.imp .inr id)⟩
 have t:(rs++[x]).length=rs.length+1:=sM;have F:=k.h;refine⟨i,n,W',λb=>(A b\/W.heap.size<=b)/\b<W'.heap.size,by rw[t];exact E,bv,⟨?_,(h.e.a (p _ oM oM)).h _ _ _ oM,(h.g.a (p _ oM oM)).h _ _ _ oM,(h.d.a (p _ oM oM)).h _ _ _ oM,bv.set 0 _,h.la.mv m,⟨cs++[Sl na x.nm.length nc,Sl ba x.bd.length bc],?_,Iu.d (s.mv m) (z.mv m)⟩,λb q=>?_⟩⟩
 ·exact xB ⟨k.os.trans h.kp.os,k.g.trans h.kp.g,k.f.trans h.kp.f,wN h.kp.h F,λb B s=>(p b oM (oH h.kp.h)).trans (h.kp.d b B s)⟩ oM
 ·rw[t];exact D.on (λb q=>zJ _ (λe=>by have e:b=W0.heap.size+3:=e;exact q.1.elim (λq=>oH ((h.a b q).1)) (λq=>oM)))
 rw[uj];exact⟨q.1.elim (λq=>(h.a b q).1) (λq=>oM),q.2⟩
end
end
end Go.Proofs.YtoihadcablknpaaGreatDoor
