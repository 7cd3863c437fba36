import Derived.Test.YtmlblamikgkdcaaGreatT06
import Derived.Test.YtmlblamikgkdcaaGreatT07
set_option linter.unusedVariables false
set_option linter.unusedSimpArgs false
set_option linter.defProp false
set_option maxHeartbeats 40000000
set_option maxRecDepth 100000
namespace Go.Proofs.YtmlblamikgkdcaaGreat
open Go.RowKit
open Go.Proofs.Tryz
section
open M (OpD ug Gr)
def Uy(ra la:Oa)(rc lc nr d e f mc:Nat)(mk:Nat->Bool)(Q:Np)(b:Nat)(T:TR):Prop :=
 ∀(off c l:Nat) (w:Wl),l=T.n->T.Ok (M.bB nr d)->T.n<=c->T.n<=2000->TA Q w b T off->Cd w e f (nr+d) mk ->
  Cs 135 #[.agg #[Sl ra nr rc,Sl la d lc],Sl (Sm b off) l c,Sl (Sm e f) (nr+d) mc] w (BY (T.a (M.fN nr mk)) w)
section
variable {Q:Np} {ra la:Oa} {rc lc nr nb mb mo mc b:Nat} {mk:Nat->Bool}
def un2(D:nr<=100)(E:nb<=100)(o:OpD):Uy ra la rc lc nr nb mb mo mc mk Q b (.lf o):=by
 intro off c l w A z G I k j;obtain⟨i,⟨sa,sc,B,s⟩,C⟩:=k;have F:=ud i;obtain⟨m,g⟩:=z;have x:=g.2.2.2.2.1;have y:o.f<=1048576:=by have:=g.2.2.2.2.2;unfold M.bF at this;split at this<;>(try split at this)<;>omega
 have r:o.e=0\/o.e=1\/o.e=2\/o.e=3:=by have:=g.1;have:=g.2.1;unfold M.ar at m;split at m<;>(try split at m)<;>omega
 subst A;simp only[TR.n]at *;by_cases d:M.bE o
 .have u:=ua d;have t:=ua (j _ (KJ g d));have J:=KJ g d;have H:=ud t;have L:((M.tg nr o:Nat):Int)<((nr+nb:Nat):Int):=oM;have h:Hid (TR.a (M.fN nr mk) (.lf o)=mk (M.tg nr o)):=by show _=_;rcases d with q|q<;>simp[TR.a,M.fN,u.o,q]
  have k:=ua λ(W:Wl)=>kD ra la sa nr rc nb lc sc o W d x y oM;rcases d with q|q;all_goals
   rw[q]at i k;clear q r g j s;go_enter func135,ntmps135;go_wp2_with (go_at_call 127;refine(k _).mono ?_;rintro e W ⟨rfl,p⟩;have N:=ue (uG _ (uG _ t)) p;have v:=ua p;clear p);go_ret;exact⟨xR h.o.symm,uf (Bm w) v⟩
 have h:Hid (TR.a (M.fN nr mk) (.lf o)=decide (o.e=0)):=by
  show _=_;rcases r with q|q|q|q
  .simp[TR.a,M.fN,d,q]
  .simp[TR.a,M.fN,q]
  .exact aB (.inl q) d
  exact aB (.inr q) d
 rcases r with q|q|q|q
 .rw[q]at i h;clear d g j s q;go_enter func135,ntmps135;go_wp2;go_ret;exact⟨xR h.symm,Bm w⟩
 .rw[q]at i h;clear d g j s q;go_enter func135,ntmps135;go_wp2;go_ret;exact⟨xR h.symm,Bm w⟩
 .exact aB (.inl q) d
 exact aB (.inr q) d
def un3(o:OpD)(x:TR):Uy ra la rc lc nr nb mb mo mc mk Q b (.un o x):=by
 intro off c l w h f p r k j;obtain⟨t,d,⟨sa,sc,u,s⟩,v⟩:=k;have y:=ud d;have g:o.e=6\/o.e=7:=by have:=f.1;unfold M.ar at this;split at this<;>(try split at this)<;>omega
 have i:Hid (TR.a (M.fN nr mk) (.un o x)=true):=by show _=_;rcases g with q|q<;>simp[TR.a,M.fN,M.bE,q]
 simp only[TR.n]at p r h;generalize x.n=m at *;subst h;have z:((m+1:Nat):Int)-1=(m:Int):=oM;have A:(m:Int)<((m+1:Nat):Int):=oM;rcases g with q|q;all_goals
  rw[q]at d;clear f j s t q;go_enter func135,ntmps135;go_wp2;go_ret;exact⟨xR i.symm,Bm w⟩
def un4(o:OpD)(x y:TR)(P:Uy ra la rc lc nr nb mb mo mc mk Q b x)(R:Uy ra la rc lc nr nb mb mo mc mk Q b y):Uy ra la rc lc nr nb mb mo mc mk Q b (.bn o x y):=by
 intro off c l w C B I L H A;have V:=ua H;have z:=ua B;obtain⟨N,O,g,⟨sa,sc,F,aa⟩,G⟩:=H;have nx:=x.n0;have ny:=y.n0;simp only[TR.n]at I L C;let⟨m,D⟩:=nm (x.n+y.n);rw[D]at g F G I L C;have U:=ua D;subst C;let⟨j,p⟩:=nm x.n;have f:=ua p;rw[p]at nx D;have x2:((m+1:Nat):Int)-1=(m:Int):=oM;have x3:(m:Int)<((m+1:Nat):Int):=oM;have f1:m<c:=oM;have f2:m<=c:=oM;have f3:¬c=0:=oM;have z6:=uB m oM;have ab:=ud g;have jm:(j:Int)<(m:Int):=oM;have ac:(j:Int)<=(m:Int):=oM;have f4:¬c=j:=oM;have f5:j<=m:=oM;have f6:j<=c:=oM;have Y:=ua λ(W:Wl) (k:Bw w W)=>P off c j W f.symm z.2.2.1 (oH f) (oH f) (N.h k) (A.h k);have Z:=ua λ(W:Wl) (k:Bw w W)=>R (off+j*3) (c-j) (m-j) W oM z.2.2.2 oM oM (p▸O.h k) (A.h k);have J:o.e=4\/o.e=5:=by have:=B.1;unfold M.ar at this;split at this<;>(try split at this)<;>omega
 have t:Hid (TR.a (M.fN nr mk) (.bn o x y)=if o.e=4 then x.a (M.fN nr mk)&&y.a (M.fN nr mk) else x.a (M.fN nr mk)||y.a (M.fN nr mk)):=by show _=_;rcases J with q|q<;>simp[TR.a,M.fN,M.bE,q]
 clear B N O aa A P R p;generalize TR.a (M.fN nr mk) (.bn o x y)=r at *;generalize TR.a (M.fN nr mk) x=u at *;generalize TR.a (M.fN nr mk) y=v at *;rcases J with q|q;all_goals
  rw[q]at g t;clear q;go_enter func135,ntmps135;go_wp2_with fail;refine(yM (V.h (Bm w)) z U oM).mono ?_;rintro e W ⟨rfl,hw⟩;subst W;rw[f.o];go_wp2;generalize i:(w.alloc _).alloc _=X;have E:Hid (Bw w X.drew):=i▸(Bm w).drew;have S:=ua (i▸(Eb w).al _:zG X w.heap.size #[Sl ra nr rc,Sl la nb lc]);have xo:=ua (i▸uW _ _ _ (w.heap.size+1) sM:zG X (w.heap.size+1) _);let⟨y0,y1,y2⟩:=S.x;clear i g F G;go_region_with (go_at_call 135;refine(Z _ E).mono ?_;rintro e W2 ⟨rfl,d⟩;have s:=ua (uf E d).drew;have d:=(zH X).drew.trans d;let⟨u0,u1,u2⟩:=(S.on d).x;let⟨z0,z1,z2⟩:=(xo.on d).x;clear d);cases v;all_goals
   first
   |(go_wp2;go_region;go_wp2;go_ret;exact⟨xR (by rw[t.o];simp),s⟩)
   |(go_wp2;go_region_with (go_at_call 135;refine(Y _ s).mono ?_;rintro e W3 ⟨rfl,d⟩;have T:=ua (uf s d);clear d);go_wp2;go_ret;exact⟨xR (by rw[t.o];simp),T⟩)
def KF(a:nr<=100)(c:nb<=100)(T:TR):Uy ra la rc lc nr nb mb mo mc mk Q b T:=by
 induction T with
 |lf o=>exact un2 a c o
 |un o x _=>exact un3 o x
 |bn o x y d e=>exact un4 o x y d e
end
def ujt Q ra la a nr rc d lc n c B g h mc mk w(l:nr<=100)(m:d<=100)(y:n<=2000)(v:n<=c)(e:zM Q w a n B)(f:n=0\/M.bC nr d n B)(r:Cd w g h (nr+d) mk) :
  Cs 135 #[.agg #[Sl ra nr rc,Sl la d lc],Sl a n c,Sl (Sm g h) (nr+d) mc] w (BY (M.bZ nr mk n B) w):=by
 rcases f with k|f
 .subst k;go_enter func135,ntmps135;go_wp2;go_ret;exact⟨rfl,zO w⟩
 let⟨T,s,u,p,t⟩:=qT f;have z:=T.n0;rcases e with q|⟨b,o,rfl,A,e⟩
 .omega
 have:=Ly (off:=o) (i:=0) p (λj x=>by rw[Bp];exact e j oM);rw[Gf,Dy]at this;unfold M.bZ;rw[t];exact KF l m T o c n w s.symm u oM oM this r
end
section
open M (OpD ug Gr)
def Rf:Go.Maps.Keyed prog 9:=Go.Maps.string_keyed underlying9
def uaC w:(zeroValue 3).run prog w=.ok (Iv 0) w:=rR
def ke(z:LI):Lit:=.string (str z.length (lf z)).data.toList
def LO z:WideAt.IsKeyLit (ke z):=trivial
def CX z(h:z.length<=1000000):keyOf prog 9 (.string (str z.length (lf z)))=some (ke z):=Go.WideMaps.keyOf_string_mk underlying9 (by rw[qo];unfold maxLen;omega)
def CY{y z}(a:zW y)(b:zW z)(h:ke y=ke z):y=z:=by
 unfold ke at h;injection h with h;refine(FT a b).1 ?_;generalize str y.length (lf y)=p at *;generalize str z.length (lf z)=q at *;cases p;cases q;congr 1;exact Array.toList_inj.1 h
abbrev Tj(w:Wl)(b n:Nat)(D:DataW Unit):Prop:=w.ownsMap prog 9 (plainElem prog 3) b n D
structure zU(w:Wl)(b:Nat)(ks:List LI)(g:List Int->Nat):Prop where
 k:∃D,Tj w b ks.length D/\Maps.size D=ks.length/\(∀l,Maps.has D l=true↔∃z∈ks,l=ke z)/\∀z∈ks,D.atKey (ke z) (.lit (.int .i64 0))=.lit (.int .i64 (g z:Nat))
 h:∀z∈ks,zW z
 f:∀z∈ks,z.length<=1000000
 c:ks.length<=1000000
 nd:ks.Nodup
def zU.on{w w' b a}{g:List Int->Nat}(h:zU w b a g)(e:w'.heap[b]?=w.heap[b]?):zU w' b a g:=by
 let⟨D,⟨d,cl,i,j⟩,l⟩:=h.k;exact⟨⟨D,⟨d,cl,e.trans i,j⟩,l⟩,h.h,h.f,h.c,h.nd⟩
def zU.lt{w b c}{g:List Int->Nat}(h:zU w b c g):b<w.heap.size:=by
 let⟨D,a,_⟩:=h.k;exact a.lt
def zU.a{w b c}{g:List Int->Nat}(h:zU w b c g)o:zU (w.alloc o) b c g:=h.on (Jo h.lt)
def zU.i(w:Wl)(g:List Int->Nat):zU (w.alloc (.map #[] 0)) w.heap.size [] g :=
 ⟨⟨.map [],World.ownsMap_made _ _ _ _,rfl,λl=>⟨(λq=>by cases q),(λq=>by obtain⟨z,a,_⟩:=q;cases a)⟩,(λz a=>by cases a)⟩,(λz a=>by cases a),(λz a=>by cases a),zK,List.nodup_nil⟩
def zU.e{w b a}{g d:List Int->Nat}(h:zU w b a g)(e:∀z∈a,g z=d z):zU w b a d:=by
 let⟨D,j,l,m,n⟩:=h.k;exact⟨⟨D,j,l,m,λz i=>by rw[n z i,e z i]⟩,h.h,h.f,h.c,h.nd⟩
def zU.p{w b i j}{g:List Int->Nat}(h:zU w b i g)(p:i.Perm j):zU w b j g:=by
 let⟨D,m,n,o,r⟩:=h.k;have e:=p.length_eq;exact⟨⟨D,by rw[<-e];exact m,by rw[n,e],λl=>(o l).trans ⟨λq=>by obtain⟨z,a,c⟩:=q;exact⟨z,p.mem_iff.1 a,c⟩,λq=>by obtain⟨z,a,c⟩:=q;exact⟨z,p.mem_iff.2 a,c⟩⟩,λz d=>r z (p.mem_iff.2 d)⟩,λz d=>h.h z (p.mem_iff.2 d),λz d=>h.f z (p.mem_iff.2 d),by rw[<-e];exact h.c,p.nodup_iff.1 h.nd⟩
def zU.j{w b a}{g:List Int->Nat}(h:zU w b a g){D:DataW Unit}(c:∀l,Maps.has D l=true↔∃z∈a,l=ke z){z}(f:zW z):Maps.has D (ke z)=decide (z∈a):=by
 by_cases q:z∈a
 .rw[Ke q];exact(c _).2 ⟨z,q,rfl⟩
 rw[Ix q];by_cases e:Maps.has D (ke z)=true
 .let⟨y,d,e⟩:=(c _).1 e;exact aB (by rw[CY f (h.h y d) e];exact d) q
 simpa using e
def Rg(a:List LI)(g:List Int->Nat)(z:LI):Nat:=if z∈a then g z else 0
def F2{w b n}{D:DataW Unit}(h:Tj w b n D):Tj w b (Maps.size D) D:=by
 obtain⟨a,cl,c,d,e,rfl⟩:=h;exact⟨a,cl,c,d,by simp[Maps.size,length_sorted],rfl⟩
def zU.m{w b a}{g:List Int->Nat}(h:zU w b a g){z}(d:zW z)(l:z.length<=1000000) :
  ∃D,Tj w b a.length D/\D.atKey (ke z) (.lit (.int .i64 0))=.lit (.int .i64 (Rg a g z:Nat))/\Maps.has D (ke z)=decide (z∈a):=by
 let⟨D,e,i,c,f⟩:=h.k;refine⟨D,e,?_,h.j c d⟩;unfold Rg;by_cases q:z∈a
 .rw[Zp q,f z q]
 rw[Zn q];exact Maps.atKey_of_not_has (by rw[h.j c d,Ix q]) _
def Kk(g:List Int->Nat)(z:LI)(i:Nat):List Int->Nat:=λy=>if y=z then i else g y
def jG(a:List LI)(z:LI):List LI:=if z∈a then a else a++[z]
def Cv{a z y}:y∈jG a z↔y∈a\/y=z:=by
 unfold jG;split
 .exact⟨λq=>.inl q,λq=>q.elim id (λe=>by rw[e];assumption)⟩
 simp
def zU.n{w w' b d}{g:List Int->Nat}(h:zU w b d g){z}(m:zW z)(u:z.length<=1000000)i(t:d.length+1<=1000000){D:DataW Unit}{n}(r:Maps.size D=d.length)(o:∀l,Maps.has D l=true↔∃z∈d,l=ke z)(s:∀z∈d,D.atKey (ke z) (.lit (.int .i64 0))=.lit (.int .i64 (g z:Nat)))(k:Maps.Tidy D)(v:Tj w' b n (D.put (ke z) (.lit (.int .i64 (i:Nat))))) :
  zU w' b (jG d z) (Kk g z i):=by
 have p:Maps.size (D.put (ke z) (.lit (.int .i64 (i:Nat))))=(jG d z).length:=by
  rw[Maps.size_put k,h.j o m,r];unfold jG;by_cases q:z∈d
  .rw[Zp (by simpa using q),Zp q]
  rw[Zn (by simpa using q),Zn q,zJ];rfl
 refine⟨⟨_,by rw[<-p];exact F2 v,p,λl=>?_,λy a=>?_⟩,λy a=>?_,λy a=>?_,?_,?_⟩
 .by_cases e:l=ke z
  .subst e;rw[Maps.has_put_same k.isMap (LO z)];exact⟨λ_=>⟨z,Cv.2 (.inr rfl),rfl⟩,λ_=>rfl⟩
  rw[Maps.has_put_other e,o];constructor
  .rintro⟨y,a,rfl⟩;exact⟨y,Cv.2 (.inl a),rfl⟩
  rintro⟨y,a,rfl⟩;rcases Cv.1 a with q|q
  .exact⟨y,q,rfl⟩
  rw[q]at e;exact aB rfl e
 .unfold Kk;by_cases e:y=z
  .rw[Zp e,e];exact Maps.atKey_put_same k.isMap (LO z) _ _
  rw[Zn e];rcases Cv.1 a with q|q
  .rw[Maps.atKey_put_other (λc=>e (CY (h.h y q) m c))];exact s y q
  exact aB q e
 .rcases Cv.1 a with q|q
  .exact h.h y q
  rw[q];exact m
 .rcases Cv.1 a with q|q
  .exact h.f y q
  rw[q];exact u
 .unfold jG;split
  .exact h.c
  rw[zJ];exact t
 unfold jG;split
 .exact h.nd
 rename_i q;refine List.nodup_append.2 ⟨h.nd,sM,λx A y a=>?_⟩;rw[Bu.1 a];exact λe=>q (by rw[<-e];exact A)
section
variable (w:Wl) {ops:Array Oper} {rest:List Oper} {o:Oper} {a:Act} {Q:Exit->Act->World->Prop}
def LP(p:o.guard=none)(m x:Operand)(r:o.op=Op.lookup 82 m x true)(b:Nat)(e:List LI)(g:List Int->Nat)(z:LI)(q:a.eval m=.map (some b))(h:zU w b e g)(s:a.eval x=.string (str z.length (lf z)))(t:zW z)(f:z.length<=1000000)(bv:Bool)(n:decide (z∈e)=bv)
  (l:wpList prog ops Q rest (a.put o.dst (.tuple #[Iv (Rg e g z:Nat),.bool bv])) w):wpList prog ops Q (o::rest) a w:=by
 let⟨D,i,j,k⟩:=h.m t f;refine wpList_lookup_own_ok_int w p m x 82 r 9 3 .i64 Rf underlying82 underlying3 (uaC w) b _ D q i _ _ s (CX z f) (λc d u=>?_);rw[j]at d;injection d with d;injection d with _ d;rw[<-d,k,n];exact l
def LQ(l:o.guard=none)(m x:Operand)(p:o.op=Op.lookup 82 m x false)(b:Nat)(f:List LI)(g:List Int->Nat)(z:LI)(n:a.eval m=.map (some b))(h:zU w b f g)(q:a.eval x=.string (str z.length (lf z)))(r:zW z)(e:z.length<=1000000)
  (k:wpList prog ops Q rest (a.put o.dst (Iv (Rg f g z:Nat))) w):wpList prog ops Q (o::rest) a w:=by
 let⟨D,i,j,s⟩:=h.m r e;refine wpList_lookup_own_int w l m x 82 p 9 3 .i64 Rf underlying82 underlying3 (uaC w) b _ D n i _ _ q (CX z e) (λc d t=>?_);rw[j]at d;injection d with d;injection d with _ d;rw[<-d];exact k
def CZ(i:o.guard=none)(m:Operand)(l:o.op=Op.call { callee:=Callee.builtin Builtin.len,args:=#[m],argTypes:=#[82] })(b:Nat)(c:List LI)(g:List Int->Nat)(j:a.eval m=.map (some b))(h:zU w b c g)
  (f:wpList prog ops Q rest (a.put o.dst (Iv (c.length:Nat))) w):wpList prog ops Q (o::rest) a w:=by
 let⟨D,d,e,n,p⟩:=h.k;refine wpList_len_own w i m 82 l 9 3 underlying82 _ b _ D j d ?_;rw[e];exact f
def DA(q:o.guard=none)(m x v:Operand)(y:o.op=Op.mapUpdate 82 m x v)(b:Nat)(c:List LI)(g:List Int->Nat)(z:LI)(i:Nat)(t:a.eval m=.map (some b))(h:zU w b c g)(B:a.eval x=.string (str z.length (lf z)))(A:a.eval v=Iv (i:Nat))(C:zW z)(e:z.length<=1000000)(s:c.length+1<=1000000)(E:i<=1000000)
  (p:∀w',zU w' b (jG c z) (Kk g z i)->w.grownBy w' (some b)->wpList prog ops Q rest (a.put o.dst undef) w'):wpList prog ops Q (o::rest) a w:=by
 let⟨D,d,f,j,l⟩:=h.k;exact wpList_mapUpdate_own w q m x v 82 y 9 3 Rf underlying82 _ b _ D t d (by unfold maxLen;omega) _ _ (ke z) B A (CX z e) _ [] (plainElem_int underlying3 (WalkArith.wf_i64 oM)) (λw' u r=>p w' (h.n C e i s f j l (d.tidy Rf) u) r)
end
end
section
open M (OpD ug Gr)
def beg(k:Int):Prop:=k=33\/k=38\/k=94\/k=46\/k=40\/k=110\/k=34\/k=91
instance (k:Int):Decidable (beg k):=by unfold beg;infer_instance
def pos(n:Nat):List zI->Nat
 |[]=>n
 |x::_=>x.f
def rd(n:Nat):Nat->Nat->PE->List zI->Sum Nat (PE×List zI)
 |0,_,_,l=>.inl (pos n l)
 |f+1,0,_,l =>
  match l with
  |[]=>.inl n
  |x::r =>
   if x.e=110 then .inr (.ref x,r)
   else if x.e=34 then .inr (.str x,r)
   else if x.e=91 then .inr (.cls x,r)
   else if x.e=46 then .inr (.dot x,r)
   else if x.e=94 then
    (match r with
    |[]=>.inl n
    |y::r'=>if y.e=110 then .inr (.thr x y,r') else .inl y.f)
   else if x.e=40 then
    (match rd n f 5 .emp r with
    |.inl p=>.inl p
    |.inr (e,r') =>
     match r' with
     |[]=>.inl n
     |y::r''=>if y.e=41 then .inr (.grp x e y,r'') else .inl y.f)
   else .inl x.f
 |f+1,1,_,l =>
  match rd n f 0 .emp l with
  |.inl p=>.inl p
  |.inr (e,r) =>
   match r with
   |[]=>.inr (e,[])
   |x::r'=>if x.e=42 then .inr (.star e x,r') else if x.e=63 then .inr (.opt e x,r') else .inr (e,x::r')
 |f+1,2,_,l =>
  match l with
  |[]=>.inl n
  |x::r =>
   if x.e=33 then (match rd n f 2 .emp r with|.inl p=>.inl p|.inr (e,r')=>.inr (.not x e,r'))
   else if x.e=38 then (match rd n f 2 .emp r with|.inl p=>.inl p|.inr (e,r')=>.inr (.amp x e,r'))
   else rd n f 1 .emp (x::r)
 |f+1,3,acc,l =>
  if beg (kAt l 0) then (match rd n f 2 .emp l with|.inl p=>.inl p|.inr (e,r)=>rd n f 3 (.seq acc e) r) else .inr (acc,l)
 |f+1,4,_,l =>
  if beg (kAt l 0) then (match rd n f 2 .emp l with|.inl p=>.inl p|.inr (e,r)=>rd n f 3 e r) else .inr (.emp,l)
 |f+1,5,_,l =>
  match rd n f 4 .emp l with
  |.inl p=>.inl p
  |.inr (e,r)=>rd n f 6 e r
 |f+1,6,acc,l =>
  match l with
  |[]=>.inr (acc,[])
  |x::r =>
   if x.e=47 then (match rd n f 4 .emp r with|.inl p=>.inl p|.inr (e,r')=>rd n f 6 (.alt acc x e) r') else .inr (acc,x::r)
 |_+1,_+7,_,l=>.inl (pos n l)
def xz n{s}d(h:s≠0):uI n [] s d=n:=by rw[uI,Zn h]
def kJ n{x r s d}(h:x.e=0\/(uU s d x.e).1=7):uI n (x::r) s d=x.f:=by
 rw[uI];by_cases a:x.e=0
 .rw[Zp a]
 rw[Zn a,Zp (h.resolve_left a)]
def vA n{x r s d s' a}(b:x.e≠0)(h:uU s d x.e=(s',a))(c:s'≠7):uI n (x::r) s d=uI n r s' a:=by
 rw[uI,Zn b,h,Zn c]
def St(s:Nat):Prop:=s=3\/s=4\/s=6
def ur1{s d k}(b:St s)(a:k=110\/k=34\/k=91\/k=46):uU s d k=(6,d):=by
 rcases b with rfl|rfl|rfl<;>rcases a with rfl|rfl|rfl|rfl<;>rfl
def uva{s d k}(b:St s)(a:k=33\/k=38):uU s d k=(4,d):=by
 rcases b with rfl|rfl|rfl<;>rcases a with rfl|rfl<;>rfl
def uvb{s d}(a:St s):uU s d 94=(5,d):=by rcases a with rfl|rfl|rfl<;>rfl
def uvc{s d}(a:St s):uU s d 40=(3,d+1):=by rcases a with rfl|rfl|rfl<;>rfl
def uvd{d k}(a:k=42\/k=63):uU 6 d k=(3,d):=by rcases a with rfl|rfl<;>rfl
def uve{s d}(a:s=3\/s=6):uU s d 47=(3,d):=by rcases a with rfl|rfl<;>rfl
def uvf{s d}(a:s=3\/s=6):uU s (d+1) 41=(6,d):=by rcases a with rfl|rfl<;>simp[uU]
def ur2{d k}(a:¬beg k):(uU 4 d k).1=7:=by
 unfold beg at a;simp only[not_or]at a;obtain⟨b,c,e,f,g,h,i,j⟩:=a;simp[uU,b,c,e,f,g,h,i,j]
def ur3{d k}(a:k≠110):(uU 5 d k).1=7:=by simp[uU,a]
def upk{s d k}(n:s=3\/s=6)(a:¬beg k)(h:k≠47)(g:k≠41)(o:s=6->k≠42/\k≠63):(uU s (d+1) k).1=7:=by
 unfold beg at a;simp only[not_or]at a;obtain⟨b,c,e,f,i,j,l,m⟩:=a;rcases n with rfl|rfl
 .simp[uU,b,c,e,f,i,j,l,m,h,g]
 let⟨p,q⟩:=o rfl;simp[uU,b,c,e,f,i,j,l,m,h,g,p,q]
def Jw(s:Nat)(r:List zI):Prop:=(s=3\/s=6)/\(s=6->kAt r 0≠42/\kAt r 0≠63)
def Jw.st{s r}(h:Jw s r):St s:=h.1.elim (λq=>.inl q) (λq=>.inr (.inr q))
def Bg(s:Nat)(l:List zI):Prop:=St s/\(s=4\/beg (kAt l 0))
def SD:St 3:=.inl rfl
def SE:St 4:=.inr (.inl rfl)
def SF r:Jw 3 r:=⟨.inl rfl,λq=>aB q oM⟩
def RI(n:Nat)(l:List zI)(G:Np)(E:PE->List zI->Nat->Prop):Sum Nat (PE×List zI)->Prop
 |.inl p=>∀s d,G s->uI n l s d=(p:Int)
 |.inr (e,r)=>∃s',E e r s'/\∀s d,G s->uI n l s d=uI n r s' d
section
variable {n:Nat} {l l':List zI} {G G':Np} {E E':PE->List zI->Nat->Prop} {x y:Sum Nat (PE×List zI)}
def RI.g(h:RI n l' G' E x)(c:Nat)(i:G' c)(j:∀s d,G s->uI n l s d=uI n l' c d)(k:∀e r s,E e r s->E' e r s):RI n l G E' x:=by
 rcases x with p|⟨e,r⟩
 .exact λs d f=>(j s d f).trans (h c d i)
 obtain⟨s',a,b⟩:=h;exact⟨s',k _ _ _ a,λs d f=>(j s d f).trans (b c d i)⟩
def RI.d{c:Prop}[Decidable c](h:c->RI n l G E x)(a:¬c->RI n l G E y):RI n l G E (if c then x else y):=by
 split
 .exact h ‹_›
 exact a ‹_›
end
def R0(n f:Nat):Prop:=∀l,kAt l 0≠33->kAt l 0≠38->8*l.length+1<f->RI n l (Bg · l) (λe r s=>e.ok 0/\l=e.tk++r/\s=6) (rd n f 0 .emp l)
def Qd(n m k f:Nat):Prop:=∀l,(m=1->kAt l 0≠33/\kAt l 0≠38)->8*l.length+k<f->RI n l (Bg · l) (λe r s=>e.ok m/\l=e.tk++r/\Jw s r) (rd n f m .emp l)
def R3(n f:Nat):Prop:=∀a l s0,a.ok 3->Jw s0 l->8*l.length+4<f->RI n l (· = s0) (λe r s=>e.ok 3/\e.tk++r=a.tk++l/\¬beg (kAt r 0)/\Jw s r) (rd n f 3 a l)
def R4(n f:Nat):Prop:=∀l,8*l.length+4<f->RI n l (· = 3) (λe r s=>e.ok 4/\l=e.tk++r/\¬beg (kAt r 0)/\Jw s r) (rd n f 4 .emp l)
def R5(n f:Nat):Prop:=∀l,8*l.length+6<f->RI n l (· = 3) (λe r s=>e.ok 5/\l=e.tk++r/\¬beg (kAt r 0)/\kAt r 0≠47/\Jw s r) (rd n f 5 .emp l)
def R6(n f:Nat):Prop:=∀a l s0,a.ok 5->Jw s0 l->¬beg (kAt l 0)->8*l.length+5<f->RI n l (· = s0) (λe r s=>e.ok 5/\e.tk++r=a.tk++l/\¬beg (kAt r 0)/\kAt r 0≠47/\Jw s r) (rd n f 6 a l)
def ur4{n f}(D:R5 n f):R0 n (f+1):=by
 intro l t u E;cases l with
 |nil=>exact λs d b=>xz n d (by rcases b.1 with rfl|rfl|rfl<;>omega)
 |cons x r =>
  rw[Db]at E;have leaf:∀T:PE,T.ok 0->T.tk = [x]->(x.e=110\/x.e=34\/x.e=91\/x.e=46)->RI n (x::r) (Bg · (x::r)) (λe i s=>e.ok 0/\x::r=e.tk++i/\s=6) (.inr (T,r)):=λT B m C=>⟨6,⟨B,by rw[m];rfl,rfl⟩,λs d b=>vA n oM (ur1 b.1 C) oM⟩;simp only[rd];refine .d (λk=>leaf (.ref x) k rfl (.inl k)) λF=>.d (λk=>leaf (.str x) k rfl (.inr (.inl k))) λG=>.d (λk=>leaf (.cls x) k rfl (.inr (.inr (.inl k)))) λH=>.d (λk=>leaf (.dot x) k rfl (.inr (.inr (.inr k)))) λI=>.d (λo=>?_) λo=>.d (λc=>?_) λc s d b=>kJ n (.inr ?_)
  .have st:∀s d,St s->uI n (x::r) s d=uI n r 5 d:=λs d b=>vA n oM (by rw[o];exact uvb b) oM;cases r with
   |nil=>exact λs d b=>(st s d b.1).trans (xz n d oM)
   |cons y i=>exact .d (λc=>⟨6,⟨⟨o,c⟩,rfl,rfl⟩,λs d b=>(st s d b.1).trans (vA n oM (by rw[c];rfl) oM)⟩) λc s d b=>(st s d b.1).trans (kJ n (.inr (ur3 c)))
  .have a:=D r oM;generalize rd n f 5 .emp r=q at a ⊢;have st:∀s d,Bg s (x::r)->uI n (x::r) s d=uI n r 3 (d+1):=λs d b=>vA n oM (by rw[c];exact uvc b.1) oM;rcases q with p|⟨e,i⟩
   .exact λs d b=>(st s d b).trans (a 3 _ rfl)
   obtain⟨s',⟨b1,w,z,A,g⟩,j⟩:=a;cases i with
   |nil=>exact λs d b=>((st s d b).trans (j 3 _ rfl)).trans (xz n _ (by rcases g.1 with rfl|rfl<;>omega))
   |cons y r2=>exact .d (λh=>⟨6,⟨⟨c,h,b1⟩,by rw[w];simp[PE.tk],rfl⟩,λs d b=>((st s d b).trans (j 3 _ rfl)).trans (vA n oM (by rw[h];exact uvf g.1) oM)⟩) λh s d b=>((st s d b).trans (j 3 _ rfl)).trans (kJ n (.inr (upk g.1 z A h g.2)))
  have t:x.e≠33:=t;have u:x.e≠38:=u;have v:¬beg x.e:=λq=>by unfold beg at q;omega
  obtain⟨_,rfl|m⟩:=b
  .exact ur2 v
  exact aB m v
def ur5{n f}(j:R0 n f):Qd n 1 2 (f+1):=by
 intro l h z;have a:=j l (h rfl).1 (h rfl).2 oM;simp only[rd];generalize rd n f 0 .emp l=q at a ⊢;rcases q with p|⟨e,r⟩
 .exact a
 obtain⟨_,⟨b1,b,rfl⟩,g⟩:=a;cases r with
 |nil=>exact⟨6,⟨PE.c e oM b1,b,.inr rfl,λ_=>⟨by show(0:Int)≠42;omega,by show(0:Int)≠63;omega⟩⟩,g⟩
 |cons x y =>
  have i:∀T:PE,T.ok 1->T.tk=e.tk++[x]->(x.e=42\/x.e=63)->RI n l (Bg · l) (λe r s=>e.ok 1/\l=e.tk++r/\Jw s r) (.inr (T,y)):=λT m o t=>⟨3,⟨m,by rw[b,o];simp,SF _⟩,λs d u=>(g s d u).trans (vA n oM (uvd t) oM)⟩;exact .d (λk=>i (.star e x) ⟨oM,k,b1⟩ rfl (.inl k)) λv=>.d (λk=>i (.opt e x) ⟨oM,k,b1⟩ rfl (.inr k)) λw=>⟨6,⟨PE.c e oM b1,b,.inr rfl,λ_=>⟨v,w⟩⟩,g⟩
def ur6{n f}(m:Qd n 1 2 f)(o:Qd n 2 3 f):Qd n 2 3 (f+1):=by
 intro l _ u;cases l with
 |nil=>exact λs d b=>xz n d (by rcases b.1 with rfl|rfl|rfl<;>omega)
 |cons x r =>
  rw[Db]at u;simp only[rd];have a:=o r (λq=>aB q oM) oM;have pre:∀T:PE->PE,(x.e=33\/x.e=38)->(∀e,e.ok 2->(T e).ok 2)->(∀e,(T e).tk=x::e.tk)->RI n (x::r) (Bg · (x::r)) (λe g s=>e.ok 2/\x::r=e.tk++g/\Jw s g) (match rd n f 2 .emp r with|.inl p=>.inl p|.inr (e,g)=>.inr (T e,g)):=λT v m o=>by
   have st:∀s d,Bg s (x::r)->uI n (x::r) s d=uI n r 4 d:=λs d b=>vA n oM (uva b.1 v) oM;generalize rd n f 2 .emp r=q at a ⊢;rcases q with p|⟨e,g⟩
   .exact λs d b=>(st s d b).trans (a 4 d ⟨SE,.inl rfl⟩)
   obtain⟨s',⟨b1,i,t⟩,j⟩:=a;exact⟨s',⟨m e b1,by rw[o,i];rfl,t⟩,λs d b=>(st s d b).trans (j 4 d ⟨SE,.inl rfl⟩)⟩
  refine .d (λk=>pre (.not x) (.inl k) (λe h=>⟨oM,k,h⟩) λe=>rfl) λw=>.d (λk=>pre (.amp x) (.inr k) (λe h=>⟨oM,k,h⟩) λe=>rfl) λy=>?_;have a:=m (x::r) (λ_=>⟨w,y⟩) (by rw[Db];omega);generalize rd n f 1 .emp (x::r)=q at a ⊢;rcases q with p|⟨e,g⟩
  .exact a
  obtain⟨s',⟨b1,i⟩,j⟩:=a;exact⟨s',⟨PE.c e oM b1,i⟩,j⟩
def ur7{n f}(u:Qd n 2 3 f)(v:R3 n f):R3 n (f+1):=by
 intro m l s0 k c x;simp only[rd];refine .d (λb=>?_) λb=>⟨s0,⟨k,rfl,b,c⟩,λs d e=>by rw[e]⟩;have a:=u l (λq=>aB q oM) oM;generalize rd n f 2 .emp l=q at a ⊢;rcases q with p|⟨e,r⟩
 .exact λs d i=>a s d ⟨i▸c.st,.inr b⟩
 obtain⟨s',⟨b1,j,o⟩,t⟩:=a;have z:=(yK e b1 []).2.2;have y:l.length=e.tk.length+r.length:=by rw[j,zJ]
 exact(v (.seq m e) r s' ⟨oM,k,b1⟩ o oM).g s' rfl (λs d i=>t s d ⟨i▸c.st,.inr b⟩) λw A B h=>⟨h.1,by rw[h.2.1,j];simp[PE.tk],h.2.2⟩
def ur8{n f}(t:Qd n 2 3 f)(u:R3 n f):R4 n (f+1):=by
 intro l v;simp only[rd];refine .d (λb=>?_) λb=>⟨3,⟨Ya 4,rfl,b,SF _⟩,λs d e=>by rw[e]⟩;have a:=t l (λq=>aB q oM) oM;generalize rd n f 2 .emp l=q at a ⊢;rcases q with p|⟨e,r⟩
 .exact λs d i=>a s d ⟨i▸SD,.inr b⟩
 obtain⟨s',⟨b1,j,k⟩,m⟩:=a;have x:=(yK e b1 []).2.2;have w:l.length=e.tk.length+r.length:=by rw[j,zJ]
 exact(u e r s' (PE.c e oM b1) k oM).g s' rfl (λs d i=>m s d ⟨i▸SD,.inr b⟩) λo y z h=>⟨PE.c o oM h.1,by rw[h.2.1,j],h.2.2⟩
def ur9{n f}(y:R4 n f)(z:R6 n f):R6 n (f+1):=by
 intro t l s0 c b m A;cases l with
 |nil=>exact⟨s0,⟨c,rfl,m,by show(0:Int)≠47;omega,b⟩,λs d e=>by rw[e]⟩
 |cons x r =>
  rw[Db]at A;simp only[rd];refine .d (λk=>?_) λk=>⟨s0,⟨c,rfl,m,k,b⟩,λs d e=>by rw[e]⟩;have st:∀s d,s=s0->uI n (x::r) s d=uI n r 3 d:=λs d e=>vA n oM (by rw[k,e];exact uve b.1) oM;have a:=y r oM;generalize rd n f 4 .emp r=q at a ⊢;rcases q with p|⟨e,o⟩
  .exact λs d i=>(st s d i).trans (a 3 d rfl)
  obtain⟨s',⟨b1,j,u,v⟩,w⟩:=a;have C:r.length=e.tk.length+o.length:=by rw[j,zJ]
  exact(z (.alt t x e) o s' ⟨oM,k,c,b1⟩ v u oM).g s' rfl (λs d i=>(st s d i).trans (w 3 d rfl)) λB r2 D h=>⟨h.1,by rw[h.2.1,j];simp[PE.tk],h.2.2⟩
def usa{n f}(k:R4 n f)(m:R6 n f):R5 n (f+1):=by
 intro l s;simp only[rd];have a:=k l oM;generalize rd n f 4 .emp l=q at a ⊢;rcases q with p|⟨e,r⟩
 .exact a
 obtain⟨s',⟨b1,b,d,i⟩,j⟩:=a;have t:l.length=e.tk.length+r.length:=by rw[b,zJ]
 exact(m e r s' (PE.c e oM b1) i d oM).g s' rfl j λo u v h=>⟨h.1,by rw[h.2.1,b],h.2.2⟩
def SG n:∀f,R0 n f/\Qd n 1 2 f/\Qd n 2 3 f/\R3 n f/\R4 n f/\R5 n f/\R6 n f
 |0=>⟨(λl _ _ h=>absurd h oM),(λl _ h=>absurd h oM),(λl _ h=>absurd h oM),(λ_ l _ _ _ h=>absurd h oM),(λl h=>absurd h oM),(λl h=>absurd h oM),(λ_ l _ _ _ _ h=>absurd h oM)⟩
 |f+1=>by
  let⟨e,g,a,b,c,i,d⟩:=SG n f;exact⟨ur4 i,ur5 e,ur6 g a,ur7 a b,ur8 a b,usa c d,ur9 c d⟩
def rd5 n f l(h:8*l.length+6<f):(∀p,rd n f 5 .emp l=.inl p->∀d,uI n l 3 d=(p:Int))/\(∀e r,rd n f 5 .emp l=.inr (e,r)->e.ok 5/\l=e.tk++r/\¬beg (kAt r 0)/\kAt r 0≠47/\∃s',Jw s' r/\∀d,uI n l 3 d=uI n r s' d):=by
 have a:=(SG n f).2.2.2.2.2.1 l h;refine⟨λp q d=>?_,λe r q=>?_⟩<;>rw[q]at a
 .exact a 3 d rfl
 obtain⟨s,⟨b1,b,c,g,i⟩,j⟩:=a;exact⟨b1,b,c,g,s,i,λd=>j 3 d rfl⟩
end
open M (OpD ug Gr)
structure Rl where
 a:Option zI
 f:zI
 eq:zI
 e:PE
 g:zI
def Rl.tk(r:Rl):List zI:=r.a.toList++(r.f::r.eq::(r.e.tk++[r.g]))
def Rl.ok(r:Rl):Prop:=(∀c,r.a=some c->c.e=94)/\r.f.e=110/\r.eq.e=61/\r.e.ok 5/\r.g.e=59
def yf(n:Nat)(a:Option zI)(l:List zI):Sum Nat (Rl×List zI) :=
 match l with
 |[]=>.inl n
 |x::r =>
  if x.e=110 then
   (match r with
   |[]=>.inl n
   |y::r1 =>
    if y.e=61 then
     (match rd n (8*r1.length+8) 5 .emp r1 with
      |.inl p=>.inl p
      |.inr (e,r2) =>
       match r2 with
       |[]=>.inl n
       |z::r3=>if z.e=59 then .inr (⟨a,x,y,e,z⟩,r3) else .inl z.f)
    else .inl y.f)
  else .inl x.f
def xA(n:Nat)(l:List zI):Sum Nat (Rl×List zI) :=
 match l with
 |[]=>.inl n
 |x::r=>if x.e=94 then yf n (some x) r else yf n none (x::r)
def yB(n:Nat):Nat->List zI->Sum Nat (List Rl)
 |0,l=>.inl (pos n l)
 |f+1,l =>
  match l with
  |[]=>.inr []
  |x::r =>
   match xA n (x::r) with
   |.inl p=>.inl p
   |.inr (q,r') =>
    match yB n f r' with
    |.inl p=>.inl p
    |.inr a=>.inr (q::a)
def usd{s}(a:s=3\/s=6):uU s 0 59=(0,0):=by rcases a with rfl|rfl<;>rfl
def uno{s k}(m:s=3\/s=6)(a:¬beg k)(f:k≠47)(h:k≠59)(n:s=6->k≠42/\k≠63):(uU s 0 k).1=7:=by
 unfold beg at a;simp only[not_or]at a;obtain⟨b,c,d,e,g,i,j,l⟩:=a;rcases m with rfl|rfl
 .simp[uU,b,c,d,e,g,i,j,l,f,h]
 let⟨o,p⟩:=n rfl;simp[uU,b,c,d,e,g,i,j,l,f,h,o,p]
def SL n(g:Option zI)(w:∀c,g=some c->c.e=94)l s(i:s=0\/s=1)(B:s=0->kAt l 0≠94)(A:s=0->l≠[]) :
  (∀p,yf n g l=.inl p->uI n l s 0=(p:Int))/\(∀q r,yf n g l=.inr (q,r)->q.ok/\g.toList++l=q.tk++r/\uI n l s 0=uI n r 0 0):=by
 cases l with
 |nil =>
  have D:=i.resolve_left (λq=>A q rfl);exact⟨(λp h=>by simp only[yf]at h;injection h with h;subst h;exact xz n 0 oM),(λq r h=>by simp[yf]at h)⟩
 |cons x r =>
  simp only[yf];by_cases a:x.e=110
  .rw[Zp a];have st:uI n (x::r) s 0=uI n r 2 0:=vA n oM (by rw[a];rcases i with rfl|rfl<;>rfl) oM;rw[st];cases r with
   |nil=>exact⟨(λp h=>by injection h with h;subst h;exact xz n 0 oM),(λq r h=>by cases h)⟩
   |cons y r1 =>
    simp only;by_cases b:y.e=61
    .rw[Zp b];have C:uI n (y::r1) 2 0=uI n r1 3 0:=vA n oM (by rw[b];rfl) oM;rw[C];let⟨k,m⟩:=rd5 n (8*r1.length+8) r1 oM;cases j:rd n (8*r1.length+8) 5 .emp r1 with
     |inl p=>exact⟨(λE h=>by injection h with h;subst h;exact k p j 0),(λq r h=>by cases h)⟩
     |inr q =>
      obtain⟨e,r2⟩:=q;let⟨b1,o,t,u,s',f,v⟩:=m e r2 j;simp only;rw[v 0];cases r2 with
      |nil=>exact⟨(λp h=>by injection h with h;subst h;exact xz n 0 (by rcases f.1 with rfl|rfl<;>omega)),(λq r h=>by cases h)⟩
      |cons z F =>
       simp only;by_cases d:z.e=59
       .rw[Zp d];refine⟨(λp h=>by cases h),λq r h=>?_⟩;injection h with h;injection h with ha hb;subst ha hb;exact⟨⟨w,a,b,b1,d⟩,by rw[o];simp[Rl.tk],vA n oM (by rw[d];exact usd f.1) oM⟩
       rw[Zn d];exact⟨(λp h=>by injection h with h;subst h;exact kJ n (.inr (uno f.1 t u d f.2))),(λq r h=>by cases h)⟩
    rw[Zn b];exact⟨(λp h=>by injection h with h;subst h;exact kJ n (.inr (by simp[uU,b]))),(λq r h=>by cases h)⟩
  rw[Zn a];refine⟨(λp h=>?_),(λq r h=>by cases h)⟩;injection h with h;subst h;refine kJ n (.inr ?_);rcases i with rfl|rfl
  .have:x.e≠94:=B rfl;simp[uU,a,this]
  simp[uU,a]
def ukr n l(b:l≠[]) :
  (∀p,xA n l=.inl p->uI n l 0 0=(p:Int))/\(∀q r,xA n l=.inr (q,r)->q.ok/\l=q.tk++r/\uI n l 0 0=uI n r 0 0):=by
 cases l with
 |nil=>exact absurd rfl b
 |cons x r =>
  simp only[xA];by_cases a:x.e=94
  .rw[Zp a];have st:uI n (x::r) 0 0=uI n r 1 0:=vA n oM (by rw[a];rfl) oM;rw[st];exact SL n (some x) (λc h=>by injection h with h;subst h;exact a) r 1 (.inr rfl) (λq=>aB q oM) (λq=>aB q oM)
  rw[Zn a];exact SL n none (λc h=>by cases h) (x::r) 0 (.inl rfl) (λ_=>a) (λ_=>b)
def GO n:∀f l,l.length<f->(∀p,yB n f l=.inl p->uI n l 0 0=(p:Int))/\(∀a,yB n f l=.inr a->(∀q∈a,q.ok)/\l=a.flatMap Rl.tk/\uI n l 0 0 = -1)
 |0,l,h=>absurd h oM
 |f+1,l,h=>by
  cases l with
  |nil =>
   simp only[yB];refine⟨(λp h=>by cases h),λa h=>?_⟩;injection h with h;subst h;exact⟨(λq b=>by cases b),rfl,rfl⟩
  |cons x r =>
   simp only[yB];let⟨i,j⟩:=ukr n (x::r) sM;cases b:xA n (x::r) with
   |inl p=>exact⟨(λv h=>by injection h with h;subst h;exact i p b),(λa h=>by cases h)⟩
   |inr q =>
    obtain⟨q,c⟩:=q;let⟨b1,d,e⟩:=j q c b;have y:(x::r).length=q.tk.length+c.length:=(by rw[d,zJ]);have z:0<q.tk.length:=(by simp[Rl.tk];omega);let⟨k,m⟩:=GO n f c oM;simp only;cases g:yB n f c with
    |inl p=>exact⟨(λv h=>by injection h with h;subst h;rw[e];exact k p g),(λa h=>by cases h)⟩
    |inr a =>
     refine⟨(λp h=>by cases h),λA h=>?_⟩;injection h with h;subst h;let⟨o,s,t⟩:=m a g;refine⟨λw u=>?_,by rw[d,Eu,<-s],by rw[e];exact t⟩;rcases Dm.1 u with rfl|h
     .exact b1
     exact o w h
namespace Y
open M (OpD ug Gr uw ins)
def IL(m:Nat)(w0:Wl)(v:Vl)(W:Wl):Prop:=∃L,L.length<=m/\(∀x,x∈L->x.d.sl<=512)/\De w0 W v L
section
variable {m m2 n:Nat} {w0 w1 w W:Wl} {v y:Vl}
def IL.a(h:IL m w0 v W):∃a n c,v=Sl a n c/\n<=m:=let⟨_,h1,_,h⟩:=h;let⟨a,c,e⟩:=h.a;⟨a,_,c,e,h1⟩
def IL.le(h:IL m w0 v W)(k:m<=m2):IL m2 w0 v W:=let⟨L,h1,h⟩:=h;⟨L,zP h1 k,h⟩
def IL.h(h:IL m w0 v w)(k:Bw w W):IL m w0 v W:=let⟨L,h1,h2,h⟩:=h;⟨L,h1,h2,h.h k⟩
def IL.b(h:IL m w1 v W)(k:Bw w0 w1):IL m w0 v W:=let⟨L,h1,h2,h⟩:=h;⟨L,h1,h2,h.b k⟩
def IL.q(h:IL m w0 v W):Bw w0 W:=let⟨_,_,_,h⟩:=h;h.q
def IL.one(k a t:Int)(b:Bw w0 w):IL 1 w0 (Sl (Sm w.heap.size 0) 1 1) (w.alloc (Oc #[Iv k,Iv a,Iv t,nS] 102)) :=
 ⟨[ic k a t],zD,λx c=>by obtain rfl:=Bu.1 c;exact zK,J8 k a t b⟩
def IL.c(ty:TypeId)(h:IL m w0 v w1)(k:IL m2 w1 y w)(b:m+m2<=16777216):∃a n c w',(Builtin.append_ #[39,39] ty #[v,y]).run prog w=.ok (Sl a n c) w'/\n<=m+m2/\IL (m+m2) w0 (Sl a n c) w':=by
 obtain⟨L,p,f,g⟩:=h;obtain⟨K,b1,i,j⟩:=k;let⟨q,w',l,d⟩:=J7 ty g j oM;obtain⟨e,c',rfl⟩:=d.a;have b:(L++K).length<=m+m2:=by rw[zJ];omega
 exact⟨e,_,c',w',l,b,_,b,λx o=>(By.1 o).elim (f x) (i x),d⟩
def cG{ops:Array Oper}{rest:List Oper}{o:Oper}{a:Act}{d:Exit->Act->World->Prop}(i:o.guard=none)(s x:Operand)(p:o.op=.call { callee:=.builtin .append,args:=#[s,x],argTypes:=#[39,39] })
  (r:a.eval s=v) (t:a.eval x=y) (h:IL m w0 v w1) (e:IL m2 w1 y w) (j:m+m2<=16777216) (k:∀b n c w',n<=m+m2->Hid (IL (m+m2) w0 (Sl b n c) w')->wpList prog ops d rest (a.put o.dst (Sl b n c)) w'):wpList prog ops d (o::rest) a w:=by
 refine wpList_plain i λK f=>?_;let⟨b,n,c,w',q,l,g⟩:=h.c o.type e j;exact yO p r t q (f _ _ (k _ _ _ _ l g))
def ux6{ops:Array Oper}{o:Oper}{a:Act}{K:Act->World->Prop}{d:Exit->Act->World->Prop}{E:Prop}(g:o.guard=none)(s x:Operand)(l:o.op=.call { callee:=.builtin .append,args:=#[s,x],argTypes:=#[39,39] })
  (q:a.eval s=v) (r:a.eval x=y) (h:IL m w0 v w1) (e:IL m2 w1 y w) (i:m+m2<=16777216) (k:∀b n c w',n<=m+m2->Hid (IL (m+m2) w0 (Sl b n c) w')->K (a.put o.dst (Sl b n c)) w'):if Region.wanted o (yielded ops a.tmps)=true then Oper.wp prog o a w K d else E:=by
 rw[Zp (by simp[Region.wanted,g])];let⟨b,n,c,w',p,j,f⟩:=h.c o.type e i;exact yO l q r p (k _ _ _ _ j f)
end
def UX(w:Wl)(e:Ending)(w':Wl):Prop:=(∃x,e=Rt (Iv x))/\w'=w
def AnJ(w:Wl)(e:Ending)(w':Wl):Prop:=(∃x,e=Rt (Iv x))/\Bw w w'
section
variable {Q:Np} {a ra la:Oa} {n c rc lc b off l:Nat} {B:Nat->OpD} {g:Gr} {w:Wl} {nr nb:Nat} {T:TR}
def dZ(d:zM Q w a n B)(f:∀i,i<n->0<=(B i).e/\(B i).e<=7)(s:n<=2000):Cs 128 #[Sl a n c] w (UX w):=by
 have j:=ua d;have l:=ua f;clear d f;go_enter func128,ntmps128;go_wp2;go_loopw [3,4] (λp g wr=>((∃x,p=Iv x)/\∃k:Nat,k<=n/\g=Iv k)/\wr=w) (λ_ g _=>n-(intOf g).toNat)
 .exact⟨⟨⟨_,rfl⟩,0,zK,rfl⟩,rfl⟩
 obtain⟨⟨⟨x,rfl⟩,k,f,rfl⟩,o⟩:=hrel;subst o;by_cases h:k<n
 .rcases j.o with r|⟨b,off,rfl,t,d⟩
  .omega
  let⟨q,_,_⟩:=d k h;let⟨u,v⟩:=l.o k h;have hlt':(k:Int)<(n:Int):=oM;have m:(B k).e=0\/(B k).e=1\/(B k).e=2\/(B k).e=3\/(B k).e=4\/(B k).e=5\/(B k).e=6\/(B k).e=7:=oM;generalize (B k).e=kd at *;clear d;rcases m with rfl|rfl|rfl|rfl|rfl|rfl|rfl|rfl;all_goals
   go_wp2;go_roundw
   .exact⟨⟨⟨_,rfl⟩,k+1,oM,by go_num⟩,trivial⟩
   simp[intOf];omega
 obtain rfl:k=n:=oM;go_wp2;go_ret;exact⟨⟨_,rfl⟩,rfl⟩
def dO(h:TA Q w b T off)(a:T.Ok (M.bB nr nb))(f:Q b)(e:T.n<=2000)(d:l=T.n):Cs 128 #[Sl (Sm b off) l c] w (UX w):=by
 subst d;exact dZ (B:=T.c) (.inr ⟨b,off,rfl,f,jL h⟩) (λi _=>⟨(TR.b a i).1,(TR.b a i).2.1⟩) e
def usw(b:M.Sound g){p:Nat}(k:p<g.nr+g.nb):(nd g p).bl<=2000/\∀i,i<(nd g p).bl->M.bB g.nr g.nb ((nd g p).e i):=by
 have f:=b.ol;unfold M.ops at f;by_cases e:p<g.nr
 .rw[vY g e];have:=M.cQ (λi=>(g.a i).bl) e;exact⟨oM,(b.rb p e).1⟩
 obtain⟨i,rfl⟩:∃i,p=g.nr+i:=⟨p-g.nr,oM⟩;rw[yZ];have:=M.cQ (λi=>(g.d i).bl) (i:=i) (n:=g.nb) oM;refine⟨oM,?_⟩;cases c:(g.d i).j with
 |true=>exact(b.lb i oM c).1
 |false=>exact λj h=>by have:=b.lz i oM c;omega
def eZ(j:M.Sound g)(t:zV Q w ra la g){p:Nat}(H:p<g.nr+g.nb):Cs 126 #[.agg #[Sl ra g.nr rc,Sl la g.nb lc],Iv (p:Int)] w (AnJ w):=by
 have F:=j.r2;have G:=j.l2;have LB:=ua λW (k:Bw w W) q (o:q<g.nr+g.nb)=>qR Q ra la rc lc g W (t.h k) F G q o;have m:=ua λq (o:q<g.nr+g.nb)=>usw j o;clear t j;go_enter func126,ntmps126;go_wp2_with fail;generalize n:w.alloc _=X;have s:Hid (Bw w X):=n▸zO w;have b:Hid (zG X w.heap.size #[Sl ra g.nr rc,Sl la g.nb lc]):=n▸Eb w;clear n;refine(LB.o X s.o p H).mono ?_;rintro e W1 ⟨⟨L,P,rfl,_,_⟩,a⟩;have d:=ua (uf s.o a);replace b:=ua (b.o.on a);let⟨B,A,y⟩:=b.o.x;clear a;cases S:(((nd g p).bl:Int)==0)
 .go_wp2;go_loopw [5,6] (λE r wr=>(∃x,E=Iv x)/\(∃k:Nat,k<=p/\r=Iv k)/\Bw W1 wr) (λ_ r _=>p-(intOf r).toNat)
  .exact⟨⟨_,rfl⟩,⟨0,zK,rfl⟩,zH _⟩
  obtain⟨⟨x,rfl⟩,⟨k,T,rfl⟩,a⟩:=hrel;have l:=ua a;let⟨B,A,y⟩:=(b.o.on a).x;clear a;by_cases V:k<p
  .have hlt':(k:Int)<(p:Int):=oM;go_wp2_with fail;refine(LB.o _ (uf d.o l.o) k oM).mono ?_;rintro e W2 ⟨⟨N,R,rfl,_,_⟩,a⟩;have f:=ua (uf l.o a);let⟨B,A,y⟩:=(b.o.on f.o).x;clear a;by_cases U:(0:Int)<((nd g k).bl:Int)
   .go_wp2_with fail;refine(LB.o _ (uf d.o f.o) k oM).mono ?_;rintro e J ⟨⟨O,c3,rfl,v,_⟩,a⟩;have C:=ua (uf f.o a);have D:=ua (dZ (c:=c3) v (λi u=>⟨((m.o k oM).2 i u).1,((m.o k oM).2 i u).2.1⟩) (m.o k oM).1);clear v a;go_wp2_with (go_at_call 128;refine D.o.mono ?_;rintro e W4 ⟨⟨z,rfl⟩,I⟩;subst I);go_roundw
    .exact⟨⟨_,rfl⟩,⟨k+1,oM,by go_num⟩,C.o⟩
    simp[intOf];omega
   go_wp2;go_roundw
   .exact⟨⟨_,rfl⟩,⟨k+1,oM,by go_num⟩,f.o⟩
   simp[intOf];omega
  obtain rfl:k=p:=oM;go_wp2;go_ret;exact⟨⟨_,rfl⟩,uf d.o l.o⟩
 go_wp2;go_ret;exact⟨⟨_,rfl⟩,d.o⟩
end
end Y
open M (uw)
structure uvj(b:Nat)(s:zC)(ia:Oa)(il ic:Nat)(mO:Int)(ka:Oa)(kn kc:Nat)(la:Oa)(ln lc:Nat)(w:Wl)(e:Ending)(w':Wl):Prop where
 k:∃v,e=Rt v
 c:zX w' b s ia il ic mO ka kn kc la ln lc
 m:Kept (λx=>x=b) w w'
def uaB:(prog.info? 110).map (λi=>(i.zero,i.size))=some (some (.agg (madeCells #[Bf] 256)),256):=rR
def HB{v n i}(h:i<n):(madeCells #[v] n)[i]?=some v:=by
 simp[madeCells,h,Nat.mod_one]
def ukD{P w Y W}(h:Bw w Y)(k:Kept P Y W):Kept P w W :=
 ⟨k.os.trans h.os,k.g.trans h.tape,k.f.trans h.output,zP h.size k.l,λx a b=>(k.d x (Ba a h.size) b).trans (h.block x a)⟩
def yF{P w Y W}(h:Kept P w Y)(k:Kept P Y W):Kept P w W :=
 ⟨k.os.trans h.os,k.g.trans h.g,k.f.trans h.f,zP h.l k.l,λx b a=>(k.d x (Ba b h.l) a).trans (h.d x b a)⟩
def zX.k{w w' b s c il ic mO d i g la ln lc N e}(h:zX w b s c il ic mO d i g la ln lc)(k:GY b 7 N w e w'):zX w' b { s with t:=N } c il ic mO d i g la ln lc :=
 ⟨(k.b 0 oM).trans h.c0,(k.b 1 oM).trans h.c1,(k.b 2 oM).trans h.c2,(k.b 3 oM).trans h.c3,(k.b 4 oM).trans h.c4,(k.b 5 oM).trans h.c5,(k.b 6 oM).trans h.c6,k.f,(k.b 263 oM).trans h.c8,(k.b 264 oM).trans h.c9,(k.b 265 oM).trans h.a,λj=>(k.a j).trans (h.fz j)⟩
def zX.g{w b s e il ic mO f m l la ln lc}(h:zX w b s e il ic mO f m l la ln lc)d(o:d.length=256)(p:∀i,i<256->d[i]?=some Bf):zX (w.setCells b 7 d) b { s with t:=λ_=>false } e il ic mO f m l la ln lc:=by
 have c:∀j,(j<7\/263<=j)->(w.setCells b 7 d).cell? (Ad b j)=w.cell? (Ad b j):=λj q=>World.cell?_setCells_out b d 7 w (Ad b j) (λ_ _=>by rw[o];show j<7\/7+256<=j;omega);refine⟨(c 0 oM).trans h.c0,(c 1 oM).trans h.c1,(c 2 oM).trans h.c2,(c 3 oM).trans h.c3,(c 4 oM).trans h.c4,(c 5 oM).trans h.c5,(c 6 oM).trans h.c6,λi n=>?_,(c 263 oM).trans h.c8,(c 264 oM).trans h.c9,(c 265 oM).trans h.a,λj=>(World.frozen?_setCells _ _ _ _ _).trans (h.fz j)⟩;rw[World.cell?_setCells_in b d 7 w (λk r=>by rw[h.ex k oM];rfl) i oM];have:=p i n;rw[Bb oM]at this;exact this
def ufs{w W b}(h:Kept (λx=>x=b) w W)j a:Kept (λx=>x=b) w (W.setCells b j a):=by
 let⟨i,k,m⟩:=CV b a j W;exact⟨i.trans h.os,k.trans h.g,m.trans h.f,by rw[yx];exact h.l,λx e c=>(kP b a j W x c).trans (h.d x e c)⟩
def TW Q b s A il ic mO B D C la ln lc a n c S w(G:zX w b s A il ic mO B D C la ln lc)(hS:Ints Q .i64 w a n S)(hq:¬Q b)(ab:∀x,Q x->x<w.heap.size)(hn:n<=1048576) :
  Cs 202 #[.pointer (Sm b 0),Sl a n c] w (uvj b (s.k n S) A il ic mO B D C la ln lc w):=by
 have J:=ua G;have HS:=ua hS;have HQ:=ua hq;have X:=ua ab;have lb:=ud G.c0;have c3:=G.c3;have o:=G.c6;have hz:=(zero_of_info (P:=prog) uaB).1;clear G hS hq ab;by_cases ad:(s.i:Int)<(s.c:Int)
 .have F:Hid (s.k n S={ s with i:=s.c,t:=λi=>vq n S (i:Int) }):=by show _=_;unfold zC.k;rw[Zp oM]
  have R:=J.fz 6;go_enter func202,ntmps202;go_wp2;go_quiet (fail);have l:Bw w (w.drewN nq):=Be (zH _) nq;generalize w.drewN nq=Y at *;have HY:=ua l;have r:=ua (J.on (l.block b lb));have ae:=Ba lb l.size;clear l c3 o R;have c3:=r.c3;have o:=r.c6;have R:=r.fz 6;have O:(madeCells #[Bf] 256).size=256:=size_madeCells _ _;have aa:=run_storeCells_cells (P:=prog) b 7 (madeCells #[Bf] 256).toList 0 (Y.setCell (Ad b 6) (Iv s.c)) (λj V=>by
    rw[Ph,O]at V;rw[Dy,uu oM,r.o.ex j V];rfl) (λj V=>Jn.trans (r.fz _)) (λv hv=>by
    let⟨i,H,e⟩:=List.mem_iff_getElem.1 hv;have N:=HB (v:=Bf) (n:=256) (i:=i) (by rw[Ph,O]at H;exact H);rw[<-Array.getElem?_toList,Bb H,e]at N;injection N with N;rw[N];rfl)
  rw[Dy]at aa;go_wp2;generalize U:(Y.setCell (Ad b 6) (Iv s.c)).setCells b 7 (madeCells #[Bf] 256).toList=Z;have f:zX Z b { s with i:=s.c,t:=λ_=>false } A il ic mO B D C la ln lc:=by
   rw[<-U];exact(r.n s.c).g _ (by rw[Ph,O]) (λi H=>by rw[Array.getElem?_toList];exact HB H)
  have q:Kept (λx=>x=b) w Z:=by
   rw[<-U];exact ukD HY (ufs (vK (kM Y) 6) 7 _)
  clear U aa O c3 o R hz r;have ac:=ud f.c0;have c3:=f.c3;have o:=f.c6;have z:((s.c:Int)==(s.c:Int))=true:=sM;go_quiet (fail);have p:Hid (zX (Z.drewN nq) b { s with i:=s.c,t:=λ_=>false } A il ic mO B D C la ln lc):=f.on rfl;have u:Hid (Kept (λx=>x=b) w (Z.drewN nq)):=HI q;generalize Z.drewN nq=L at *;clear f q c3 o;go_wp2_with fail;have T:Ints Q .i64 L a n S:=HS.on (λx I=>u.d x (by have:=X x I;exact this) (λe=>HQ (e▸I)));refine(TL Q b 7 a n c S hn T p.o.ex p.o.fz).mono ?_;rintro e W y;obtain⟨v,rfl⟩:=y.k;have E:=ua y;clear y;go_wp2;refine zL (results_none rfl _ _ _) rfl ?_;rw[F.o];refine⟨⟨_,rfl⟩,?_,yF u E.m⟩;have h:=p.k E;simp only[Qx]at h;exact h
 have hgt':¬(s.i:Int)<(s.c:Int):=ad;by_cases z:s.c=s.i
 .have F:Hid (s.k n S={ s with t:=λi=>vq n S (i:Int)||s.t i }):=by show _=_;unfold zC.k;rw[Zn oM,Zp z]
  have heq':((s.c:Int)==(s.i:Int))=true:=by simp[z]
  clear z;go_enter func202,ntmps202;go_wp2;go_quiet (fail);have l:Bw w (w.drewN nq):=Be (zH _) nq;generalize w.drewN nq=Z at *;have f:=J.on (l.block b lb);have q:Kept (λx=>x=b) w Z:=Kept.of l;have ac:=Ba lb l.size;clear l c3 o;have c3:=f.c3;have o:=f.c6;go_wp2;go_quiet (fail);have p:Hid (zX (Z.drewN nq) b s A il ic mO B D C la ln lc):=f.on rfl;have u:Hid (Kept (λx=>x=b) w (Z.drewN nq)):=HI q;generalize Z.drewN nq=L at *;clear f q c3 o;go_wp2_with fail;have T:Ints Q .i64 L a n S:=HS.on (λx I=>u.d x (by have:=X x I;exact this) (λe=>HQ (e▸I)));refine(TL Q b 7 a n c S hn T p.o.ex p.o.fz).mono ?_;rintro e W y;obtain⟨v,rfl⟩:=y.k;have E:=ua y;clear y;go_wp2;refine zL (results_none rfl _ _ _) rfl ?_;rw[F.o];exact⟨⟨_,rfl⟩,p.k E,yF u E.m⟩
 have F:Hid (s.k n S=s):=by show _=_;unfold zC.k;rw[Zn oM,Zn z]
 have heq':((s.c:Int)==(s.i:Int))=false:=sO;clear z;go_enter func202,ntmps202;go_wp2;go_quiet (fail);have l:Bw w (w.drewN nq):=Be (zH _) nq;generalize w.drewN nq=Z at *;have f:=J.on (l.block b lb);have q:Kept (λx=>x=b) w Z:=Kept.of l;have ac:=Ba lb l.size;clear l c3 o;have c3:=f.c3;have o:=f.c6;go_wp2;go_quiet (fail);have p:Hid (zX (Z.drewN nq) b s A il ic mO B D C la ln lc):=f.on rfl;have u:Hid (Kept (λx=>x=b) w (Z.drewN nq)):=HI q;generalize Z.drewN nq=L at *;clear f q c3 o;go_wp2;refine zL (results_none rfl _ _ _) rfl ?_;rw[F.o];exact⟨⟨_,rfl⟩,p.o,u.o⟩
end Go.Proofs.YtmlblamikgkdcaaGreat
