import Derived.Test.YtoihadcablknpaaGreatDoorT28
import Derived.Test.YtoihadcablknpaaGreatDoorT25
import Derived.Test.YtoihadcablknpaaGreatDoorT29
set_option linter.unusedVariables false
set_option linter.unusedSimpArgs false
set_option linter.defProp false
set_option maxHeartbeats 40000000
set_option maxRecDepth 100000
namespace Go.Proofs.YtoihadcablknpaaGreatDoor
open Go.RowKit
open Go.Proofs.Tryz
section
open M (OpD uh Gr)
def Ni:Go.Maps.Keyed prog 9:=Go.Maps.string_keyed underlying9
def uey w:(zeroValue 3).run prog w=.ok (Iv 0) w:=rR
def xJ(z:LI):Lit:=.string (str z.length (lf z)).data.toList
def FF z:WideAt.IsKeyLit (xJ z):=trivial
def Xe z(h:z.length<=1000000):keyOf prog 9 (.string (str z.length (lf z)))=some (xJ z):=Go.WideMaps.keyOf_string_mk underlying9 (by rw[Wp];unfold maxLen;omega)
def Xf{y z}(a:wW y)(b:wW z)(h:xJ y=xJ z):y=z:=by
 unfold xJ at h;injection h with h;refine(Yo a b).1 ?_;generalize str y.length (lf y)=p at *;generalize str z.length (lf z)=q at *;cases p;cases q;congr 1;exact Array.toList_inj.1 h
abbrev OwnM(w:Wl)(b n:Nat)(D:DataW Unit):Prop:=w.ownsMap prog 9 (plainElem prog 3) b n D
structure wV(w:Wl)(b:Nat)(ks:List LI)(g:List Int->Nat):Prop where
 r:∃D,OwnM w b ks.length D/\Maps.size D=ks.length/\(∀l,Maps.has D l=true↔∃z∈ks,l=xJ z)/\∀z∈ks,D.atKey (xJ z) (.lit (.int .i64 0))=.lit (.int .i64 (g z:Nat))
 j:∀z∈ks,wW z
 f:∀z∈ks,z.length<=1000000
 c:ks.length<=1000000
 nd:ks.Nodup
def wV.on{w w' b a}{g:List Int->Nat}(h:wV w b a g)(e:w'.heap[b]?=w.heap[b]?):wV w' b a g:=by
 obtain⟨D,⟨d,cl,i,k⟩,l⟩:=h.r;exact⟨⟨D,⟨d,cl,e.trans i,k⟩,l⟩,h.j,h.f,h.c,h.nd⟩
def wV.lt{w b c}{g:List Int->Nat}(h:wV w b c g):b<w.heap.size:=by
 obtain⟨D,a,_⟩:=h.r;exact a.lt
def wV.a{w b c}{g:List Int->Nat}(h:wV w b c g)o:wV (w.alloc o) b c g:=h.on (Hj h.lt)
def wV.i(w:Wl)(g:List Int->Nat):wV (w.alloc (.map #[] 0)) w.heap.size [] g :=
 ⟨⟨.map [],World.ownsMap_made _ _ _ _,rfl,λl=>⟨(λq=>by cases q),(λq=>by obtain⟨z,a,_⟩:=q;cases a)⟩,(λz a=>by cases a)⟩,(λz a=>by cases a),(λz a=>by cases a),wP,List.nodup_nil⟩
def wV.e{w b a}{g d:List Int->Nat}(h:wV w b a g)(e:∀z∈a,g z=d z):wV w b a d:=by
 obtain⟨D,k,l,m,n⟩:=h.r;exact⟨⟨D,k,l,m,λz i=>by rw[n z i,e z i]⟩,h.j,h.f,h.c,h.nd⟩
def wV.n{w b i k}{g:List Int->Nat}(h:wV w b i g)(p:i.Perm k):wV w b k g:=by
 obtain⟨D,m,o,s,t⟩:=h.r;have e:=p.length_eq;exact⟨⟨D,by rw[<-e];exact m,by rw[o,e],λl=>(s l).trans ⟨λq=>by obtain⟨z,a,c⟩:=q;exact⟨z,p.mem_iff.1 a,c⟩,λq=>by obtain⟨z,a,c⟩:=q;exact⟨z,p.mem_iff.2 a,c⟩⟩,λz d=>t z (p.mem_iff.2 d)⟩,λz d=>h.j z (p.mem_iff.2 d),λz d=>h.f z (p.mem_iff.2 d),by rw[<-e];exact h.c,p.nodup_iff.1 h.nd⟩
def wV.h{w b a}{g:List Int->Nat}(h:wV w b a g){D:DataW Unit}(c:∀l,Maps.has D l=true↔∃z∈a,l=xJ z){z}(f:wW z):Maps.has D (xJ z)=decide (z∈a):=by
 by_cases q:z∈a
 ·rw[Gi q];exact(c _).2 ⟨z,q,rfl⟩
 rw[Gv q];by_cases e:Maps.has D (xJ z)=true
 ·obtain⟨y,d,e⟩:=(c _).1 e;exact aB (by rw[Xf f (h.j y d) e];exact d) q
 simpa using e
def Nj(a:List LI)(g:List Int->Nat)(z:LI):Nat:=if z∈a then g z else 0
def VJ{w b n}{D:DataW Unit}(h:OwnM w b n D):OwnM w b (Maps.size D) D:=by
 obtain⟨a,cl,c,d,e,rfl⟩:=h;exact⟨a,cl,c,d,by simp[Maps.size,length_sorted],rfl⟩
def wV.m{w b a}{g:List Int->Nat}(h:wV w b a g){z}(d:wW z)(j:z.length<=1000000) :
  ∃D,OwnM w b a.length D/\D.atKey (xJ z) (.lit (.int .i64 0))=.lit (.int .i64 (Nj a g z:Nat))/\Maps.has D (xJ z)=decide (z∈a):=by
 obtain⟨D,e,i,c,f⟩:=h.r;refine⟨D,e,?_,h.h c d⟩;unfold Nj;by_cases q:z∈a
 ·rw[Zp q,f z q]
 rw[Zn q];exact Maps.atKey_of_not_has (by rw[h.h c d,Gv q]) _
def Jr(g:List Int->Nat)(z:LI)(i:Nat):List Int->Nat:=λy=>if y=z then i else g y
def jc(a:List LI)(z:LI):List LI:=if z∈a then a else a++[z]
def Az{a z y}:y∈jc a z↔y∈a\/y=z:=by
 unfold jc;split
 ·exact⟨λq=>.inl q,λq=>q.elim id (λe=>by rw[e];assumption)⟩
 simp
def wV.k{w w' b d}{g:List Int->Nat}(h:wV w b d g){z}(o:wW z)(v:z.length<=1000000)i(u:d.length+1<=1000000){D:DataW Unit}{n}(s:Maps.size D=d.length)(p:∀l,Maps.has D l=true↔∃z∈d,l=xJ z)(t:∀z∈d,D.atKey (xJ z) (.lit (.int .i64 0))=.lit (.int .i64 (g z:Nat)))(m:Maps.Tidy D)(A:OwnM w' b n (D.put (xJ z) (.lit (.int .i64 (i:Nat))))) :
  wV w' b (jc d z) (Jr g z i):=by
 have r:Maps.size (D.put (xJ z) (.lit (.int .i64 (i:Nat))))=(jc d z).length:=by
  rw[Maps.size_put m,h.h p o,s];unfold jc;by_cases q:z∈d
  ·rw[Zp (by simpa using q),Zp q]
  rw[Zn (by simpa using q),Zn q,wK];rfl
 refine⟨⟨_,by rw[<-r];exact VJ A,r,λl=>?_,λy a=>?_⟩,λy a=>?_,λy a=>?_,?_,?_⟩
 ·by_cases e:l=xJ z
  ·subst e;rw[Maps.has_put_same m.isMap (FF z)];exact⟨λ_=>⟨z,Az.2 (.inr rfl),rfl⟩,λ_=>rfl⟩
  rw[Maps.has_put_other e,p];constructor
  ·rintro⟨y,a,rfl⟩;exact⟨y,Az.2 (.inl a),rfl⟩
  rintro⟨y,a,rfl⟩;rcases Az.1 a with q|q
  ·exact⟨y,q,rfl⟩
  rw[q]at e;exact aB rfl e
 ·unfold Jr;by_cases e:y=z
  ·rw[Zp e,e];exact Maps.atKey_put_same m.isMap (FF z) _ _
  rw[Zn e];rcases Az.1 a with q|q
  ·rw[Maps.atKey_put_other (λc=>e (Xf (h.j y q) o c))];exact t y q
  exact aB q e
 ·rcases Az.1 a with q|q
  ·exact h.j y q
  rw[q];exact o
 ·rcases Az.1 a with q|q
  ·exact h.f y q
  rw[q];exact v
 ·unfold jc;split
  ·exact h.c
  rw[wK];exact u
 unfold jc;split
 ·exact h.nd
 rename_i q;refine List.nodup_append.2 ⟨h.nd,sM,λx B y a=>?_⟩;rw[Aw.1 a];exact λe=>q (by rw[<-e];exact B)
section
variable (w:Wl) {ops:Array Oper} {rest:List Oper} {o:Oper} {a:Act} {Q:Exit->Act->World->Prop}
def Tb(p:o.guard=none)(m x:Operand)(r:o.op=Op.lookup 183 m x true)(b:Nat)(e:List LI)(g:List Int->Nat)(z:LI)(q:a.eval m=.map (some b))(h:wV w b e g)(s:a.eval x=.string (str z.length (lf z)))(t:wW z)(f:z.length<=1000000)(bv:Bool)(n:decide (z∈e)=bv)
  (l:wpList prog ops Q rest (a.put o.dst (.tuple #[Iv (Nj e g z:Nat),.bool bv])) w):wpList prog ops Q (o::rest) a w:=by
 obtain⟨D,i,j,k⟩:=h.m t f;refine wpList_lookup_own_ok_int w p m x 183 r 9 3 .i64 Ni underlying183 underlying3 (uey w) b _ D q i _ _ s (Xe z f) (λc d u=>?_);rw[j]at d;injection d with d;injection d with _ d;rw[<-d,k,n];exact l
def FG(l:o.guard=none)(m x:Operand)(p:o.op=Op.lookup 183 m x false)(b:Nat)(f:List LI)(g:List Int->Nat)(z:LI)(n:a.eval m=.map (some b))(h:wV w b f g)(q:a.eval x=.string (str z.length (lf z)))(r:wW z)(e:z.length<=1000000)
  (k:wpList prog ops Q rest (a.put o.dst (Iv (Nj f g z:Nat))) w):wpList prog ops Q (o::rest) a w:=by
 obtain⟨D,i,j,s⟩:=h.m r e;refine wpList_lookup_own_int w l m x 183 p 9 3 .i64 Ni underlying183 underlying3 (uey w) b _ D n i _ _ q (Xe z e) (λc d t=>?_);rw[j]at d;injection d with d;injection d with _ d;rw[<-d];exact k
def Tc(i:o.guard=none)(m:Operand)(k:o.op=Op.call { callee:=Callee.builtin Builtin.len,args:=#[m],argTypes:=#[183] })(b:Nat)(c:List LI)(g:List Int->Nat)(j:a.eval m=.map (some b))(h:wV w b c g)
  (f:wpList prog ops Q rest (a.put o.dst (Iv (c.length:Nat))) w):wpList prog ops Q (o::rest) a w:=by
 obtain⟨D,d,e,l,n⟩:=h.r;refine wpList_len_own w i m 183 k 9 3 underlying183 _ b _ D j d ?_;rw[e];exact f
def Xg(p:o.guard=none)(m x v:Operand)(y:o.op=Op.mapUpdate 183 m x v)(b:Nat)(c:List LI)(g:List Int->Nat)(z:LI)(i:Nat)(t:a.eval m=.map (some b))(h:wV w b c g)(B:a.eval x=.string (str z.length (lf z)))(A:a.eval v=Iv (i:Nat))(C:wW z)(e:z.length<=1000000)(s:c.length+1<=1000000)(E:i<=1000000)
  (n:∀w',wV w' b (jc c z) (Jr g z i)->w.grownBy w' (some b)->wpList prog ops Q rest (a.put o.dst undef) w'):wpList prog ops Q (o::rest) a w:=by
 obtain⟨D,d,f,j,l⟩:=h.r;exact wpList_mapUpdate_own w p m x v 183 y 9 3 Ni underlying183 _ b _ D t d (by unfold maxLen;omega) _ _ (xJ z) B A (Xe z e) _ [] (plainElem_int underlying3 (WalkArith.wf_i64 oM)) (λw' u q=>n w' (h.k C e i s f j l (d.tidy Ni) u) q)
end
end
open M (OpD uh Gr)
def D1:vA 35 50 3 56:=⟨underlying35,⟨_,GR,rfl⟩,oM⟩
structure Cu(gb:Nat)(w0:Wl)(G:Nat->Nat)(w:Wl)(rv lv:Vl)(rs ls:List GC):Prop where
 v:Gz gb w0 G w rv lv rs ls
 a:∀b,b<gb->G b=2
def Cu.e{gb w0 w G k j rs ls}(h:Cu gb w0 G w k j rs ls){t}(f:t≠2)(g:t≠3){b}(i:Tg G w t b):gb+1<=b:=by
 have c:=i.2;by_cases e:b<gb
 ·rw[h.a b e]at c;exact aB c.symm f
 by_cases d:b=gb
 ·subst d;rw[h.v.tg]at c;exact aB c.symm g
 omega
def Cu.q{gb w0 w w' G e d rs ls}(h:Cu gb w0 G w e d rs ls)(k:Kf w w')t:Cu gb w0 (ji G w t) w' e d rs ls :=
 ⟨h.v.q k (λb q=>q.elim) t,λb c=>by rw[vV (Nat.lt_trans c h.v.lt)];exact h.a b c⟩
def Cu.k{gb i W2 W4 G m w v4 rs ls x}(h:Cu gb i G W2 m w rs ls)(u:wB (Tg G W2 2) .u8 W2 x.na x.d.nm.length (lf x.d.nm))(c:zF (Tg G W2 (5+2*ls.length)) W2 (Sl x.ba x.d.bd.length x.bc) x.d.bd)(own:wC (λb=>Tg G W2 1 b\/W2.heap.size<=b) W4 v4 3 (ls.length+1) (ls.flatMap Es++Es x))(f:wS (Tg G W2 1) W2 W4):∃n,Cu gb i n (W4.setCell (Ad gb 1) v4) m v4 rs (ls++[x]):=by
 obtain⟨o,p,q,r⟩:=Tv h.v oM f;have l:=h.v.gr.g h.v.le u c own f;have t:=h.v.lt;have y:=h.v.le;have z:=f.h;have j:ji G W2 1 gb=3:=by rw[vV t];exact h.v.tg
 refine⟨ji G W2 1,⟨(Ln _ _ _ _ sM).trans o,Kg (by rw[p];rfl),by rw[Ff];exact q,by rw[Ff];exact r,
  l.on (by rw[uj];exact wF) (λb c s=>zJ _ (λe=>s (by rw[show b=gb from e];exact j))) (λb c=>rfl) l.e,j,by rw[uj];omega,by rw[uj];omega⟩,λb c=>by rw[vV oM];exact h.a b c⟩
def Cu.n{gb g W2 W4 G u k v4 rs ls x}(h:Cu gb g G W2 u k rs ls)(t:wB (Tg G W2 2) .u8 W2 x.na x.d.nm.length (lf x.d.nm))(c:zF (Tg G W2 (4+2*rs.length)) W2 (Sl x.ba x.d.bd.length x.bc) x.d.bd)(own:wC (λb=>Tg G W2 0 b\/W2.heap.size<=b) W4 v4 2 (rs.length+1) (rs.flatMap Hl++Hl x))(f:wS (Tg G W2 0) W2 W4):∃l,Cu gb g l (W4.setCell (Ad gb 0) v4) v4 k (rs++[x]) ls:=by
 obtain⟨m,o,p,q⟩:=Tv h.v oM f;have j:=h.v.gr.h h.v.le t c own f;have s:=h.v.lt;have w:=h.v.le;have y:=f.h;have i:ji G W2 0 gb=3:=by rw[vV s];exact h.v.tg
 refine⟨ji G W2 0,⟨Kg (by rw[m];rfl),(Ln _ _ _ _ sM).trans o,by rw[Ff];exact p,by rw[Ff];exact q,
  j.on (by rw[uj];exact wF) (λb c r=>zJ _ (λe=>r (by rw[show b=gb from e];exact i))) (λb c=>rfl) j.e,i,by rw[uj];omega,by rw[uj];omega⟩,λb c=>by rw[vV oM];exact h.a b c⟩
def Cu.i{gb n w W2 G s r v rs ls D z na N B}j(h:Cu gb n G w s r rs ls)(k:Kf w W2)(A:wB N .u8 W2 na z.length (lf z))(c:zF B W2 v D)(p:∀b,N b->wM w W2 b)(o:∀b,B b->wM w W2 b)(x:∀b,N b->¬B b) :
  ∃f,Cu gb n f W2 s r rs ls/\wB (Tg f W2 2) .u8 W2 na z.length (lf z)/\zF (Tg f W2 j) W2 v D:=by
 classical
 let f:Nat->Nat:=λb=>if b<w.heap.size then G b else if N b then 2 else if B b then j else 3
 have m:∀b,b<w.heap.size->f b=G b:=λb c=>Zp c
 have l:=k.d gb h.v.lt (λq=>q);have t:=k.h;have y:=h.v.lt;refine⟨f,⟨⟨(zI (a:=(Ad gb 0)) l).trans h.v.c0,(zI (a:=(Ad gb 1)) l).trans h.v.c1,(Ec (a:=(Ad gb 0)) l).trans h.v.f0,(Ec (a:=(Ad gb 1)) l).trans h.v.f1,
  h.v.gr.on t (λb c C=>k.d b c (λq=>q)) m (λb c=>?_),by rw[m gb y];exact h.v.tg,oM,wN h.v.le t⟩,λb c=>by rw[m b oM];exact h.a b c⟩,A.g (λb q=>⟨(p b q).2,?_⟩),c.g (λb q=>⟨(o b q).2,?_⟩)⟩
 ·by_cases e:b<w.heap.size
  ·rw[m b e]at c;exact h.v.gr.e b c
  have:=h.v.le;omega
 ·have u:=(p b q).1;show(if b<w.heap.size then G b else if N b then 2 else if B b then j else 3)=2;rw[Zn oM,Zp q]
 have u:=(o b q).1;show(if b<w.heap.size then G b else if N b then 2 else if B b then j else 3)=j;rw[Zn oM,Zn (λe=>x b e q),Zp q]
def Cu.d(w:Wl){t}(e:Wl)(f:e.heap.size=0):Cu w.heap.size e (λb=>if b=w.heap.size then 3 else 2) (w.alloc (Oc #[nS,nS] t)) nS nS [] []:=by
 have c:=Df w (Oc #[nS,nS] t);refine⟨⟨?_,?_,?_,?_,⟨.inl ⟨rfl,rfl,rfl⟩,.inl ⟨rfl,rfl,rfl⟩,(λx a=>by cases a),(λx a=>by cases a),(λi x a=>by simp at a),(λi x a=>by simp at a),λb c=>oM⟩,sM,sM,by rw[f];exact wP⟩,λb c=>sO⟩
 ·simp only[World.cell?,c];rfl
 ·simp only[World.cell?,c];rfl
 ·simp only[World.frozen?,c];rfl
 simp only[World.frozen?,c];rfl
def Cu.m{gb o t n i wr W2 W4 G y x v rs ls}(h:Cu gb n G W2 y x rs ls)(p:t≠2)(r:t≠3)(z:i.heap.size=gb+1)(w:wA (λb=>b=gb) i wr)(k:Kf wr W2)(a:wS (Tg G W2 t) W2 W4):wA (λb=>b=gb) i (W4.setCell (Ad gb o) v):=by
 have kk:=w.c (k.l (λb q=>q.elim));have u:wA (λb=>b=gb) i W4:=⟨a.os.trans kk.os,a.g.trans kk.g,a.f.trans kk.f,wN kk.h a.h,λb j s=>(a.d b (wX j kk.h) (λq=>oH (h.e p r q))).trans (kk.d b j s)⟩;exact u.c (zP rfl)
def Cu.h{gb w0 w G l rs ls g n c i j x y u}(h:Cu gb w0 G w l (Sl (Sm g 0) n c) rs ls)(r:ls[i]?=some x)(o:j<3)(s:Es y=(Es x).set j u)(f:Tg G w 1 g)(p:wB (Tg G w 2) .u8 w y.na y.d.nm.length (lf y.d.nm))(m:zF (Tg G w (5+2*i)) w (Sl y.ba y.d.bd.length y.bc) y.d.bd) :
  Cu gb w0 G (w.setCell (Ad g (i*3+j)) u) l (Sl (Sm g 0) n c) rs (ls.set i y):=by
 have q:gb≠g:=λe=>by have:=f.2;rw[<-e,h.v.tg]at this;omega
 have b:(w.setCell (Ad g (i*3+j)) u).heap[gb]?=w.heap[gb]?:=zJ _ (λe=>q e);exact⟨⟨(zI (a:=(Ad gb 0)) b).trans h.v.c0,(zI (a:=(Ad gb 1)) b).trans h.v.c1,(Ec (a:=(Ad gb 0)) b).trans h.v.f0,(Ec (a:=(Ad gb 1)) b).trans h.v.f1,
  h.v.gr.k r o s f p m,h.v.tg,by rw[uj];exact h.v.lt,by rw[uj];exact h.v.le⟩,h.a⟩
def zK.g{Q Q' w a l}(h:zK Q w a l)(t:∀b,Q b->Q' b):zK Q' w a l:=by
 rcases h with h|⟨b,off,e,h⟩
 ·exact .inl h
 refine .inr ⟨b,off,e,λi x q=>?_⟩;obtain⟨j,k,⟨a,c,m,n⟩,⟨d,f,o,p⟩⟩:=h i x q;exact⟨j,k,⟨a,c,m,n.g t⟩,⟨d,f,o,p.g t⟩⟩
def Dn.g{Q Q' w a c}(h:Dn Q w a c)(t:∀b,Q b->Q' b):Dn Q' w a c:=by
 rcases h with h|⟨b,off,e,h⟩
 ·exact .inl h
 refine .inr ⟨b,off,e,λi z j=>?_⟩;obtain⟨na,nc,d,f⟩:=h i z j;exact⟨na,nc,d,f.g t⟩
def D2{b ls c q}(d:q.a=none)z:vx b ls (c++[q]) z=vx b ls c z:=by
 unfold vx;rw[List.find?_append];simp[d]
def D3{a ls b q z}(c:q.f.nm≠z):vx a ls (b++[q]) z=vx a ls b z:=by
 unfold vx;rw[List.find?_append];simp[c]
def ID{d ls b q}(c:q.a.isSome=true)(i:∀s∈b,xH s q=false):vx d ls (b++[q]) q.f.nm=⟨q.f.nm,true,q.e.e d ls⟩:=by
 unfold vx;have g:b.find? (λs=>s.a.isSome&&decide (s.f.nm=q.f.nm))=none:=by
  rw[List.find?_eq_none];intro s j;have:=i s j;unfold xH at this;rw[c]at this;simp at this ⊢;intro h;exact this h
 rw[List.find?_append,g];simp[c]
def IE:∀{l:List LI},Dp l->∀(i j:Nat) (z:LI),l[i]?=some z->l[j]?=some z->i=j
 |[],_,i,j,z,hi,_=>by simp at hi
 |x::r,h,0,0,z,_,_=>rfl
 |x::r,h,0,j+1,z,hi,hj=>by
  simp at hi hj;subst hi;exact aB (h.1 _ (Be hj)) (yK _)
 |x::r,h,i+1,0,z,hi,hj=>by
  simp at hi hj;subst hj;exact aB (h.1 _ (Be hi)) (yK _)
 |x::r,h,i+1,j+1,z,hi,hj=>by
  simp at hi hj;rw[IE h.2 i j z hi hj]
def IF{b ls c q}(d:q.a=none):uG b ls (c++[q])=uG b ls c:=Oo (λz _=>D2 d z)
def IH{c ls d q k}(g:Dp ls)(b:ls[k]?=some q.f.nm)(h:q.a.isSome=true)(m:∀s∈d,xH s q=false):uG c ls (d++[q])=(uG c ls d).set k ⟨q.f.nm,true,q.e.e c ls⟩:=by
 refine List.ext_getElem? (λi=>?_);unfold uG;have l:=(zT.1 b).1;by_cases e:i=k
 ·subst e;rw[Lz (by rw[zN];exact l),Du,b];show some _=some _;rw[ID h m]
 rw[Ol oM,Du,Du];cases j:ls[i]? with
 |none=>rfl
 |some z =>
  show some _=some _;rw[D3 (λq=>e (IE g i k _ j (by rw[b,q])))]
def xL{b ls c q}:uE b ls (c++[q])=uE b ls c++(if q.a.isSome then [] else [Ph b ls q]):=by
 unfold uE;rw[List.filter_append,Cl];cases d:q.a<;>simp[d]
def Cu.f{gb o t g i c wr G q p v rs ls}(h:Cu gb i G wr q p rs ls)(j:t≠2)(k:t≠3)(r:c.heap.size=gb+1)(a:wA (λb=>b=gb) c wr)(m:Tg G wr t g):wA (λb=>b=gb) c (wr.setCell (Ad g o) v) :=
 ⟨a.os,a.g,a.f,by rw[uj];exact a.h,λb l n=>(zJ _ (λe=>by have e':b=g:=e;have:=h.e j k m;omega)).trans (a.d b l n)⟩
def D4{ops:Array Oper}{o:Oper}{a:Act}{W W1:Wl}{K:Act->World->Prop}{r:Exit->Act->World->Prop}{E:Prop}{Q:Np}(y:o.guard=none)(s x:Operand)(C:o.op=.call { callee:=.builtin .append,args:=#[s,x],argTypes:=#[22,22] })
  {ya:Oa} {yc:Nat} {z:LI} (w:W1=W.alloc (Oc #[] 5)) (F:a.eval s=Sl (Sm W.heap.size 0) 0 0) (G:a.eval x=Sl ya z.length yc) (v:wB Q .u8 W ya z.length (lf z)) (H:z.length<=1048576)
  (h:∀f u c,Hid (wB (wM W c) .u8 c f z.length (lf z))->Hid (Kf W c)->K (a.put o.dst (Sl f z.length u)) c):if Region.wanted o (yielded ops a.tmps)=true then Oper.wp prog o a W1 K r else E:=by
 subst w;refine Nk y s x 22 22 C F G qg (Q:=λb=>b=W.heap.size) (n:=0) (cs:=[]) (m:=z.length) (news:=uQ .u8 (lf z) z.length) (.inr ⟨W.heap.size,0,rfl,rfl,rfl,wF,(λj l=>by simp at l),(λj l=>oM)⟩) (wB.a underlying22 (v.q (wG W))) oM ?_;intro v3 c d k I;rw[zL,Dl]at d;obtain⟨t,c3,rfl⟩:=uq d;have J:W.heap.size+1<=c.heap.size:=by have:=k.h;simpa using this
 have B:=yt wU k (λb q=>by rw[q];exact wF);refine h t c3 c ?_ B;by_cases p:z.length=0
 ·exact .inl p
 have A:=yE d;rcases A with q|⟨g,off,e,D,i⟩
 ·exact aB q p
 refine .inr ⟨g,off,e,⟨?_,ud (i 0 oM)⟩,i⟩;rcases D with q|q
 ·omega
 have q:W.heap.size+1<=g:=by simpa using q
 omega
def xu a ls b z:(vx a ls b z).nm=z:=by
 unfold vx;split<;>rfl
def Cu.g{gb w0 w V G A o rs cs k x D ba bc}(h:Cu gb w0 G w A o rs cs)(t:Kf w V)(N:zF (wM w V) V (Sl ba D.length bc) D)(m:cs[k]?=some x) :
  ∃g c,o=Sl (Sm g 0) cs.length c/\gb≠g/\V.cell? (Ad g (k*3+1))=some (.bool x.d.h)/\V.frozen? (Ad g (k*3+1))=false/\V.cell? (Ad g (k*3+2))=some (Sl x.ba x.d.bd.length x.bc)/\V.frozen? (Ad g (k*3+2))=false /\
   (∃C,Cu gb w0 C ((V.setCell (Ad g (k*3+1)) Bt).setCell (Ad g (k*3+2)) (Sl ba D.length bc)) A o rs (cs.set k ⟨⟨x.d.nm,true,D⟩,x.na,x.nc,ba,bc⟩)) /\
   ∀n,n.heap.size=gb+1->wA (λb=>b=gb) n w->wA (λb=>b=gb) n ((V.setCell (Ad g (k*3+1)) Bt).setCell (Ad g (k*3+2)) (Sl ba D.length bc)):=by
 have a:=h.q t (5+2*k);obtain⟨g,c,e,i,U,W,S,T,E,F⟩:=a.v.gr.j m;subst e;have P:gb≠g:=λe=>by have:=i.2;rw[<-e,a.v.tg]at this;omega
 have O:=(zT.1 m).1;have J:zF (Tg (ji G w (5+2*k)) V (5+2*k)) V (Sl ba D.length bc) D:=N.g (λb q=>C5 q);have Q:=Be m;have p:=a.h (j:=1) (y:=⟨⟨x.d.nm,true,x.d.bd⟩,x.na,x.nc,x.ba,x.bc⟩) (u:=Bt) m oM rfl i (a.v.gr.ln x Q) (a.v.gr.lb k x m);have s:Tg (ji G w (5+2*k)) (V.setCell (Ad g (k*3+1)) Bt) 1 g:=⟨by rw[uj];exact i.1,i.2⟩;have z:(cs.set k ⟨⟨x.d.nm,true,x.d.bd⟩,x.na,x.nc,x.ba,x.bc⟩)[k]?=some ⟨⟨x.d.nm,true,x.d.bd⟩,x.na,x.nc,x.ba,x.bc⟩:=Lz O;have L:zF (Tg (ji G w (5+2*k)) (V.setCell (Ad g (k*3+1)) Bt) (5+2*k)) (V.setCell (Ad g (k*3+1)) Bt) (Sl ba D.length bc) D :=
  (J.on (λb q=>zJ _ (λe=>by have e':b=g:=e;have H:=q.2;have I:=i.2;rw[e',I]at H;omega))).g (λb q=>⟨by rw[uj];exact q.1,q.2⟩)
 have B:=p.h (j:=2) (y:=⟨⟨x.d.nm,true,D⟩,x.na,x.nc,ba,bc⟩) (u:=Sl ba D.length bc) z oM rfl s (p.v.gr.ln ⟨⟨x.d.nm,true,x.d.bd⟩,x.na,x.nc,x.ba,x.bc⟩ (Be z)) L;rw[List.set_set]at B;refine⟨g,c,rfl,P,S,E,T,F,⟨_,B⟩,λn r R=>?_⟩;exact p.f oM oM r (a.f oM oM r (R.c (t.l (λb q=>q.elim))) i) s
def D5{i w R Q Q' k a n S}(d:w.heap[R]?=some (Oc #[nS,nS] i))(h:wB Q k w a n S)(t:∀b,Q b->b≠R->Q' b):wB Q' k w a n S:=by
 rcases h with h|⟨b,off,e,g,h⟩
 ·exact .inl h
 by_cases f:n=0
 ·exact .inl f
 refine .inr ⟨b,off,e,t b g (λq=>?_),h⟩;subst q;have c:=h 0 oM;simp only[World.cell?,d]at c;match off,c with
 |0,c=>simp at c
 |1,c=>simp at c
 |off+2,c=>simp at c
def Dv.p{v w0 w G l k rs ls R}(h:Dv w0 G w l k rs ls)(r:w.heap[R]?=some (Oc #[nS,nS] v))(u:∀t,t≠2->t≠3->¬Tg G w t R):Dv w0 (λb=>if b=R then 3 else G b) w l k rs ls:=by
 have j:∀t,t≠2->t≠3->∀b,Tg G w t b->Tg (λb=>if b=R then 3 else G b) w t b:=λt m o b d=>⟨d.1,by
  show(if b=R then 3 else G b)=t;rw[Zn (λe:b=R=>u t m o (by rw[<-e];exact d))];exact d.2⟩
 have nm:∀{a:Oa} {n:Nat} {S:Nat->Int},wB (Tg G w 2) .u8 w a n S->wB (Tg (λb=>if b=R then 3 else G b) w 2) .u8 w a n S:=λs=>D5 r s (λb d e=>⟨d.1,by
  show(if b=R then 3 else G b)=2;rw[Zn e];exact d.2⟩)
 exact⟨uA h.a (j 0 oM oM),uA h.c (j 1 oM oM),λx f=>nm (h.rn x f),λx f=>nm (h.ln x f),λi x f=>(h.rb i x f).g (j _ oM oM),λi x f=>(h.lb i x f).g (j _ oM oM),λb d=>h.e b (λe=>d (by show(if b=R then 3 else G b)=3;by_cases q:b=R;rw[Zp q];rw[Zn q];exact e))⟩
def Cu.c{C gb R w0 w W G n m u v rs ls}(h:Cu gb w0 G w n m rs ls)(k:Kf w W)(z:W.heap[R]?=some (Oc #[nS,nS] C))(D:R<gb) :
  ∃ra rc la lc,n=Sl ra rs.length rc/\m=Sl la ls.length lc/\zC (Of ((W.setCell (Ad R 0) u).setCell (Ad R 1) v)) ((W.setCell (Ad R 0) u).setCell (Ad R 1) v) ra la (gram (rs.map (·.d)) (ls.map (·.d))):=by
 have j:=h.q k 3;have B:=j.v.gr.p z (λt x y q=>oH (j.e x y q));have A:=(B.set (rb:=R) (o:=0) (u:=u) sM).set (rb:=R) (o:=1) (u:=v) sM;obtain⟨ra,rc,la,lc,r,s,l⟩:=A.f;exact⟨ra,rc,la,lc,r,s,l.a.g (λb i=>i.2),l.c.g (λb i=>i.2)⟩
def Hx(x:NL):Prop:=x.nm.length<=1048576/\wW x.nm/\Gn x.bd
def Hx.a{x}(h:Hx x):Qt (uR x):=⟨h.1,h.2.1.j,h.2.2.c⟩
def IJ{rs ls}(d:rs.length<=1048576)(e:ls.length<=1048576)(g:∀x∈rs,Hx x)(f:∀x∈ls,Hx x):yg (gram rs ls):=by
 have c:∀(l:List NL) (i:Nat),i<l.length->(∀x∈l,Hx x)->Qt (uR (l.getD i default)):=λl i b h=>by
  rw[Cx,zG b];exact(h _ (Gb b)).a
 exact⟨d,e,λi b=>c rs i b g,λi b=>c ls i b f⟩
def Yq{b:List Rl}{q:Rl}(c:q∈b):Bb q.e.tk<=Bb (b.flatMap Rl.tk):=by
 obtain⟨g,l2,rfl⟩:=List.append_of_mem c;rw[List.flatMap_append,Dj,xM,xM];have e:Bb q.tk=Bb q.a.toList+(q.f.nm.length+1+(q.eq.nm.length+1+(Bb q.e.tk+Bb [q.d]))):=by
  unfold Rl.tk;rw[xM,Bb,Bb,xM]
 omega
def Rb{n:Nat}{b:List Rl}{q:Rl}(a ls:List LI)(f:q∈b)(d:q.ok)(k:Bb (b.flatMap Rl.tk)<=8000)(c:∀x∈q.e.tk,Ar n x)(j:n<=4000):Gn (q.e.e a ls):=by
 have h:=(JO a ls q.e).2 d.2.2.2.1;have i:=Yq f;exact⟨oM,JP 1048576 oM (λx g=>((c x g).ok oM).2.2)⟩
def D6{n g ls}(m:∀q∈g,q.ok)(o:Bb (g.flatMap Rl.tk)<=8000)(h:∀q∈g,Ar n q.f/\∀x∈q.e.tk,Ar n x)(l:n<=4000)(i:g.length<=8000)(r:ls.length<=8000)(k:∀z∈ls,wW z/\z.length<=1000000):yg (ux ls g):=by
 refine IJ ?_ ?_ (λx d=>?_) (λx d=>?_)
 ·unfold uE;rw[zN];have:=Qf (λq:Rl=>!q.a.isSome) g;omega
 ·unfold uG;rw[zN];omega
 ·unfold uE at d;obtain⟨q,i,rfl⟩:=Dc.1 d;have b:=(Ik.1 i).1;exact⟨by have:=(h q b).1.c;show q.f.nm.length<=_;omega,(h q b).1.j,Rb _ _ b (m q b) o (h q b).2 l⟩
 unfold uG at d;obtain⟨z,p,rfl⟩:=Dc.1 d;refine⟨by rw[xu];have:=(k z p).2;omega,by rw[xu];exact(k z p).1,?_⟩;unfold vx;split
 ·rename_i q i;have b:=List.mem_of_find?_eq_some i;exact Rb _ _ b (m q b) o (h q b).2 l
 exact⟨wP,(λx d=>by cases d)⟩
def Dd(t:Tx)(b a:Int)(g:Gr):Prop :=
 (4000<t.n/\b=7/\a=0/\g=yh)\/(t.n<=4000/\((∃p:Nat,vQ t.n ((uI t).length+1) (uI t)=.inl p/\b=5/\a=p/\g=yh) \/
  (∃c,vQ t.n ((uI t).length+1) (uI t)=.inr c/\yA t.n c b a g)))
def JQ:∀{l l':List LI},Dp l->Dp l'->(∀z,z∈l↔z∈l')->l=l'
 |[],[],_,_,_=>rfl
 |[],y::s,_,_,h=>absurd ((h y).2 (Mc ..)) sM
 |x::r,[],_,_,h=>absurd ((h x).1 (Mc ..)) sM
 |x::r,y::s,ha,hb,h=>by
  have e:x=y:=by
   rcases Uc x y with q|q|q
   ·rcases Bx.1 ((h x).1 (Mc ..)) with z|z
    ·exact z
    exact aB (Rg q (hb.1 x z)) (yK x)
   ·exact q
   rcases Bx.1 ((h y).2 (Mc ..)) with z|z
   ·exact z.symm
   exact aB (Rg q (ha.1 y z)) (yK y)
  subst e;rw[JQ ha.2 hb.2 (λz=>?_)];constructor
  ·intro a;rcases Bx.1 ((h z).1 (On _ a)) with q|q
   ·rw[q]at a;exact aB (ha.1 _ a) (yK _)
   exact q
  intro a;rcases Bx.1 ((h z).2 (On _ a)) with q|q
  ·rw[q]at a;exact aB (hb.1 _ a) (yK _)
  exact q
def H3{n b c a f e g i}(h:yA n b c a g)(k:yA n b f e i):c=f/\a=e/\g=i:=by
 unfold yA at h k;cases j:yM [] b with
 |some p =>
  rw[j]at h k;exact⟨h.1.trans k.1.symm,h.2.1.trans k.2.1.symm,h.2.2.trans k.2.2.symm⟩
 |none =>
  rw[j]at h k;cases m:yW (ug b) b with
  |some p =>
   rw[m]at h k;exact⟨h.1.trans k.1.symm,h.2.1.trans k.2.1.symm,h.2.2.trans k.2.2.symm⟩
  |none =>
   rw[m]at h k;simp only at h k;by_cases l:ug b = []
   ·rw[Zp l]at h k;exact⟨h.1.trans k.1.symm,h.2.1.trans k.2.1.symm,h.2.2.trans k.2.2.symm⟩
   rw[Zn l]at h k;obtain⟨ls,r,s,t⟩:=h;obtain⟨w,u,v,o⟩:=k;obtain rfl:ls=w:=JQ r u (λz=>(s z).trans (v z).symm);rcases t with⟨q,h⟩|⟨q,h⟩
   ·rcases o with⟨d,k⟩|⟨d,k⟩
    ·exact⟨h.1.trans k.1.symm,h.2.1.trans k.2.1.symm,h.2.2.trans k.2.2.symm⟩
    exact aB q d
   rcases o with⟨d,k⟩|⟨d,k⟩
   ·exact aB d q
   exact⟨h.1.trans k.1.symm,h.2.1.trans k.2.1.symm,h.2.2.trans k.2.2.symm⟩
def xN{t c a f e g i}(h:Dd t c a g)(k:Dd t f e i):c=f/\a=e/\g=i:=by
 rcases h with⟨j,h⟩|⟨j,h⟩
 ·rcases k with⟨_,k⟩|⟨l,_⟩
  ·exact⟨h.1.trans k.1.symm,h.2.1.trans k.2.1.symm,h.2.2.trans k.2.2.symm⟩
  omega
 rcases k with⟨l,_⟩|⟨_,k⟩
 ·omega
 rcases h with⟨p,d,h⟩|⟨o,d,h⟩
 ·rcases k with⟨m,b,k⟩|⟨n,b,k⟩
  ·rw[d]at b;injection b with b;subst b;exact⟨h.1.trans k.1.symm,h.2.1.trans k.2.1.symm,h.2.2.trans k.2.2.symm⟩
  rw[d]at b;cases b
 rcases k with⟨m,b,k⟩|⟨n,b,k⟩
 ·rw[d]at b;cases b
 rw[d]at b;injection b with b;subst b;exact H3 h k
section
open M (OpD uh Gr uw EX ins uJ emit_len)
def EC.Wd.f{K:EC}{A B C:Np}{s W W'}(h:K.Wd A s W)(k:wA B W W')(l:∀x,B x->A x)(i:∀x,B x->K.w0.heap.size<=x/\x≠K.b)(m:∀x,C x->A x\/W.heap.size<=x):K.Wd C s W':=by
 obtain⟨n,o,xc,j,lb,ps,h⟩:=h;refine⟨n,o,xc,j,lb,ps,h.e.a (k.d _ h.e.x.2.2 (λq=>(i _ q).2 rfl)),(h.ex.on (λx c=>k.d x c.2.1 (λq=>c.2.2 (l x q)))).g (λx c=>⟨c.1,wX c.2.1 k.h,λq=>(m x q).elim c.2.2 (λq=>oH c.2.1)⟩),?_⟩;exact⟨k.os.trans h.u.os,k.g.trans h.u.tape,k.f.trans h.u.output,wN h.u.size k.h,λx c=>(k.d x (oH h.u.size) (λq=>oH ((i x q).1))).trans (h.u.block x c)⟩
def HN(K:EC)(A:Np)(s:wD)(W:Wl)(p e:Nat)(v u:Vl)(wr:Wl):Prop :=
 ∃(d:wD) (L:List Au) (B:Np) (a:Oa) (n c:Nat),v=Sl a n c/\u=Iv (d.c:Int)/\d.st=s.st++[⟨0,((p+e+2:Nat):Int),d.c,d.a.length⟩]/\d.a=s.a++L/\d.f=((p+1:Nat):Int)/\K.E d/\K.Sg d/\K.Wd (λx=>A x\/B x) d wr/\Bp W wr B (Sl a n c) L/\K.Kp W wr/\s.b+1<=d.b/\Nst K.g.nb s.c d.c L
def Yj(K:EC)(wr:World):Nat:=match wr.cell? (Ad K.b 5) with|some (.int _ z)=>z.toNat|_=>0
def HO{K A s W}(h:K.Wd A s W):Yj K W=s.b:=by
 obtain⟨_,_,_,_,_,_,h⟩:=h;have:=h.e.x.1 5;unfold Yj;rw[this];rfl
def ZW{s:wD}{l:List Cp}{f:Cp}(h:s.st=l++[f])(g:f.e=0)(il:Nat)(I:Nat->Int){mO z:Int}(i:(l.length:Int)<mO):s.q (ins 3 0 z) il I mO={ s with f:=z,st:=l++[⟨0,f.to,s.c,s.a.length⟩] }:=by
 have j:s.s 0=true:=by unfold wD.s;rw[h,Ot];simp[g]
 have d:qB s.st=f.to:=by unfold qB;rw[h,Ot]
 have b:=Yl h;have:s.q (ins 3 0 z) il I mO=({ s.r with f:=z }:wD).n ⟨0,qB s.st,s.c,s.a.length⟩ mO:=by unfold wD.q;simp[ins,j]
 rw[this,jC _ (by show((s.r.st.length:Nat):Int)<mO;rw[b];exact i),d,b];rfl
variable {K:EC} {m:Nat}
def ZX(hK:K.Ok)(o:OpD)(y:o.e=6)(x:TR)(ix:K.e m x):K.e m (.un o x):=by
 intro bb off c p l pv dv nv A s W P hl al hc hn hT S ac au ai ak he hs T hA hm hR;simp only[TR.n]at hc hn hl;subst au;obtain⟨i,c0,⟨sa,sc,c1,av⟩,c2⟩:=hT;have j:=T.u;replace c0:=ue c0 j;replace c1:=ue c1 j;replace c2:=ue c2 j;obtain⟨k,ad⟩:=nm x.n;have nx:=x.n0;rw[ad]at c0 c1 c2 hc hn hl nx;subst hl;have x2:((k+1:Nat):Int)-1=(k:Int):=oM;have x3:(k:Int)<((k+1:Nat):Int):=oM;have z6:=uM k oM;have f1:k<c:=oM;have f2:k<=c:=oM;have f3:¬c=0:=oM;rw[y]at c0;have aw:=ud c0;have e:(TR.un o x).a (M.bB K.g.nr)=.star (x.a (M.bB K.g.nr)):=by simp[TR.a,M.bB,y]
 rw[e]at hR S;obtain⟨H,aa⟩:=nm (x.a (M.bB K.g.nr)).c;simp only[uJ,EX.c,aa]at hR S;obtain⟨hq,D⟩:=S.h;have HL:=ua S.a.left;have ae:=S.a.b;rw[emit_len,aa]at ae;have af:=ua ae.h;have aq:=ua aa;have HK:=ua hK;have Z:=ua hR;have aj:W.heap.size≠K.b:=oH T.lt;generalize hX:W.alloc (Oc #[Iv 6,Sl sa o.sl sc,Iv o.f] 128)=X;have B:=ua (hX▸um W #[Iv 6,Sl sa o.sl sc,Iv o.f] 128);have KX:Hid (Kf W X):=hX▸wU;have TK:Hid (∀P',_->_->Cs 39 #[.pointer (Sm K.b 0)] X P'):=λP'=>yJ (P:=P') hK (T.m KX) he hs ac hq
 rw[D]at TK;have az:dv<=1000:=oG hs.c hK.m1;have ay:0<=dv:=oM;have HD:=ua ai;have am:=ua ac;have HA:=ua hA;have HM:=ua hm;have IX:=ua (ix bb off c (p+1) k · (dv+1) nv · · · · ad.symm al.2.2 oM oM i HL);have ao:=ua ak;have ax:=T.lt;have a5:=T.u.size;clear hR av ak ac hs he T al S j y e D ai hA hm ix i ad ae aa;go_enter func67,ntmps67;obtain⟨z,p',lz⟩:=B.x;go_wp2_with fail;clear z p' lz;refine TK _ (λW1 w1 k1 e1 O l1=>?_) (λW1 w1 k1=>?_)
 rotate_left
 ·go_wp2;exact wL (by simp[results,f67,go_sem]) rfl (Z.b (s.c:Int) _ w1 ((vk KX).c k1))
 obtain⟨z,p',lz⟩:=(jX k1 B aj).x;have ab:=ua k1;have HE:Hid (K.E (({ s.g with f:=s.f+1 }:wD).n ⟨0,((p+H+2:Nat):Int),s.c,s.a.length⟩ K.a)):=e1;have Y:Hid (K.Sg { s.g with f:=s.f+1 }):=⟨O.e,O.thr,O.a,O.st,O.c⟩;have HW:Hid (K.Wd A { s.g with f:=s.f+1 } W1):=w1.d rfl rfl rfl rfl;clear e1 O w1 k1 TK;go_wp2_with fail;refine Pa HK.o (by rw[HD.o];rfl) HW.o Y.o (λW2 w2 k2 l2=>?_) (λW2 R h2 k2=>?_)
 rotate_left
 ·have h3:=h2 (Ends.d (by have:=HE.o;rw[R]at this;exact this) rfl);go_wp2;exact wL (by simp[results,f67,go_sem]) rfl (Z.o.b (s.c:Int) _ h3 (((vk KX.o).c ab.o).c k2))
 obtain⟨z,p',lz⟩:=(jX (ab.c k2) B aj).x;have an:=ua (((vk KX).c ab).c k2);replace HE:=ua (jC ⟨0,((p+H+2:Nat):Int),s.c,s.a.length⟩ l2▸HE.o);have ap:=ua w2;have a0:=l1;clear w2 k2;go_wp2;go_loopw [25,2] (λv u wr=>HN K A s W p H v u wr) (λ_ _ wr=>K.c.toNat-Yj K wr)
 ·exact⟨{ s.g with f:=s.f+1,st:=s.st++[⟨0,((p+H+2:Nat):Int),s.c,s.a.length⟩] },[],λ_=>False,none,0,0,rfl,rfl,rfl,by simp[wD.g],by show s.f+1=_;rw[am.o];rfl,HE,⟨Y.e,Y.thr,Y.a,Y.st,by have h:(s.st.length:Int)<K.a:=l2;show((s.st++[_]).length:Int)<=_;rw[wK,Bs];omega⟩,(ap.g (λx q=>q.elim id False.elim)).d rfl rfl rfl rfl,HI,an,wF,.nil wF⟩
 obtain⟨G,L,V,a,n,c',rfl,rfl,i1,i2,i3,hE,hG,hW,D,y,hs,hn⟩:=hrel;have RW:=ua D;have ag:=ua hn;have KW:=ua y;have SG:=ua hG;have hB:Hid (∀x,V x->K.w0.heap.size<=x/\x≠K.b):=λx i=>by have:=(D.e x i).1;exact⟨oM,oM⟩
 have ah:∀x,A x\/V x->x<wr.heap.size:=λx i=>i.elim (λq=>wX (HA x q) y.h) (λq=>(D.e x q).2)
 have C:=ua (IX.o (G.c:Int) (λx=>A x\/V x) G wr · i3 rfl (by rw[i1,HD.o];simp) (by unfold wD.l at *;rw[ao.o,i1,Yk];simp) hE hG hW ah (oH HM.o));have MS:=ua (HO hW);have a3:=hG.st;clear hE hW D y hG ah;go_wp2_with fail;refine C _ ⟨λs' L' B2 a' n' c2 W3 f w r t=>?_,λs' z3 W3 f w t=>?_,λz3 W3 w t=>?_⟩
 ·have F:=ua f;have a1:L.length+L'.length<=50000:=by
   have R:=f.sg.a;have h2:=f.sg.st;have h3:=HK.f1;rw[f.a,i2,wK,wK]at R;omega
  have R1:=ua (RW.m t (λx i j=>(hB x j).2 i));have R2:=ua r;have W3':=ua w;have K3:=ua (KW.c t);have hz:=K3.h;have i4:=f.st.trans i1;unfold yI;clear f w r t;go_wp2_with (at_builtin;refine Tr rfl _ _ rfl rfl rfl R1 R2 oM hz ?_;intro W4 a4 n4 c4 R4 N);have w4:=W3'.f (C:=λx=>A x\/(V x\/W3.heap.size<=x)/\x<W4.heap.size) N (λx i=>.inl (.inr i)) hB (λx i=>i.elim (λq=>.inl (.inl (.inl q))) (λq=>q.1.elim (λq=>.inl (.inl (.inr q))) .inr));have k4:K.Kp W W4:=⟨N.os.trans K3.os,N.g.trans K3.g,N.f.trans K3.f,wN hz N.h,λx i j=>(N.d x oM (λq=>oH ((R1.e x q).1))).trans (K3.d x i j)⟩;have q1:=F.f;rw[aq.o]at q1;refine yJ HK w4 F.e F.sg q1 af.1 (λW5 U k5 e5 Q l5=>?_) (λW5 U k5=>?_)
  ·rw[af.o.2,ZW (s:=s'.g) i4 rfl K.il K.I l2]at e5;have HJ:Hid (HN K A s W p H (Sl a4 n4 c4) (Iv s'.c) W5):=⟨{ s'.g with f:=((p+1:Nat):Int),st:=s.st++[⟨0,((p+H+2:Nat):Int),s'.c,s'.a.length⟩] },L++L',_,a4,n4,c4,rfl,rfl,rfl,by show s'.a=_;rw[F.o.a,i2,zU],rfl,e5,⟨Q.e,Q.thr,Q.a,Q.st,by have:=Q.c;rw[show s'.g.st=_ from i4]at this;simpa using this⟩,U.d rfl rfl rfl rfl,R4.m k5 (λx i j=>by have:=(R4.e x j).1;have i:x=K.b:=i;omega),k4.c k5,by have:=F.more;show s.b+1<=s'.b+1;omega,ag.app F.b⟩;have M5:=ua (HO U);have a2:=F.more;clear w4 U e5 Q k4;go_wp2;go_roundw
   ·exact HJ
   rw[M5.o,MS.o];show K.c.toNat-(s'.b+1)<_;omega
  have J:=ua (Z.b (s'.c:Int) _ U (k4.c k5));clear w4 U k4;go_wp2;exact wL (by simp[results,f67,go_sem]) rfl J
 ·obtain⟨s2,R,h2,h3,h4,h5,h6,h7,_,h8⟩:=f.to (s:={ G with st:=s.st }) (f:=⟨0,((p+H+2:Nat):Int),G.c,G.a.length⟩) i1 (by show(0:Int)≠2;decide) rfl rfl rfl wF;have J:=ua (Z.ok s2 L V a n c' W3 ⟨h3,by rw[h6,<-Eo],by rw[h4];exact i2,R,h2,by have:G.b<=s2.b:=h7;omega,h5▸ag.o⟩ (h8 _ _ w) (RW.m t (λx i j=>(hB x j).2 i)) (KW.c t));have h5':=h5;rw[h5']at J;unfold yI;clear f w t R h2 h3 h4 h5 h5' h6 h7 h8;go_wp2;exact wL (by simp[results,f67,go_sem]) rfl J
 have J:=ua (Z.b (G.c:Int) _ w (KW.c t));unfold yI;clear w t;go_wp2;exact wL (by simp[results,f67,go_sem]) rfl J
end
section
open M (OpD uh Gr uw EX ins uJ emit_len)
variable {K:EC} {m:Nat}
def ZJ(hK:K.Ok)(o:OpD)(hk:o.e=4)(x y:TR)(ix:K.e m x)(iy:K.e m y):K.e m (.bn o x y):=by
 intro bb off c p l pv dv nv A s W P hl aa hc hn hT T af ai ab ae he hs hw hA hm hR;have HT:=ua hT;have HO:=ua aa;simp only[TR.n]at hc hn hl;subst ai;obtain⟨i,hy,R,⟨sa,sc,c1,aj⟩,c2⟩:=hT;have t:=hw.u;replace R:=ue R t;replace c1:=ue c1 t;replace c2:=ue c2 t;obtain⟨k,ac⟩:=nm (x.n+y.n);have ag:=ua ac;have nx:=x.n0;have ny:=y.n0;rw[ac]at R c1 c2 hc hn hl;subst hl;obtain⟨j,U⟩:=nm x.n;have HJ:=ua U;rw[U]at nx ac;have x2:((k+1:Nat):Int)-1=(k:Int):=oM;have x3:(k:Int)<((k+1:Nat):Int):=oM;have z6:=uM k oM;have f1:k<c:=oM;have f2:k<=c:=oM;have f3:¬c=0:=oM;have z7:=uM j oM;have jm:(j:Int)<(k:Int):=oM;have ao:(j:Int)<=(k:Int):=oM;have f4:¬c=j:=oM;have f5:j<=k:=oM;have f6:j<=c:=oM;rw[hk]at R;have ak:=ud R;have e:(TR.bn o x y).a (M.bB K.g.nr)=.seq (x.a (M.bB K.g.nr)) (y.a (M.bB K.g.nr)):=by simp[TR.a,M.bB,hk]
 rw[e]at hR T;simp only[uJ,EX.c]at hR T;have ad:=T.b;rw[emit_len]at ad;have HK:=ua hK;have Q:=ua hR;have al:=hw.lt;have an:=t.size;generalize hX:W.alloc (Oc #[Iv 4,Sl sa o.sl sc,Iv o.f] 128)=X;have B:=ua (hX▸um W #[Iv 4,Sl sa o.sl sc,Iv o.f] 128);have v:Hid (Kf W X):=hX▸wU;have L2:=ua (Wu (w:=X) (c:=c) (HT.q (uf t v.u)) HO ag oM);have IX:=ua (ix bb off c p j (s.c:Int) dv nv A s X · U.symm aa.2.2.1 oM oM i T.left af rfl ab ae he hs (hw.m v) (λx i=>wX (hA x i) v.h) hm);have IY:=ua (iy bb (off+j*3) (c-j) (p+(x.a (M.bB K.g.nr)).c) (k-j) · dv nv · · · · oM aa.2.2.2 oM oM (U▸hy) ad);have HD:=ua ab;have ah:=ua ae;have HA:=ua hA;have HM:=ua hm;clear hR aj ae af hs he hw aa T t hk e ab hA hm ix iy i hy ad U;go_enter func67,ntmps67;obtain⟨z,p',lz⟩:=B.x;go_wp2_with fail;refine L2.mono ?_;rintro e W0 ⟨rfl,h0⟩;subst h0;rw[HJ.o];go_wp2_with fail;clear z p' lz;refine IX _ ⟨λs' L B1 a n c' Z f G r E=>?_,λs' z3 Z f G E=>?_,λz3 Z G E=>?_⟩
 ·have F:=ua f;have R1:=ua r;have V:=ua ((vk v).c E);have hB:Hid (∀x,B1 x->K.w0.heap.size<=x/\x≠K.b):=λx i=>by have S:=(r.e x i).1;have h2:=v.h;exact⟨oM,oM⟩
  have C:=ua (IY.o (s'.c:Int) (λx=>A x\/B1 x) s' Z · f.f rfl (by rw[f.st];exact HD.o) (by unfold wD.l at *;rw[f.st];exact ah.o) f.e f.sg G (λx i=>i.elim (λq=>wX (HA.o x q) V.o.h) (λq=>(r.e x q).2)) (oG f.more HM.o));unfold yI;clear f G r E;go_wp2_with fail;refine C _ ⟨λs2 Y B2 a2 n2 c2 W4 f H r D=>?_,λs2 z4 W4 f H D=>?_,λz4 W4 H D=>?_⟩
  ·have am:L.length+Y.length<=50000:=by
    have S:=f.sg.a;have h2:=f.sg.st;have h3:=HK.f1;rw[f.a,F.o.a,wK,wK]at S;omega
   have R2:=ua (R1.m D (λx i t=>(hB x t).2 i));have N:=ua (V.c D);have hz:=N.h;have I:=ua f;have R3:=ua r;have W4':=ua H;unfold yI;clear f H r D;go_wp2_with (at_builtin;refine Tr rfl _ _ rfl rfl rfl (R2.b v.h) R3 oM hz ?_;intro W5 a5 n5 c5 R5 O);refine wL (by simp[results,f67,go_sem]) rfl (Q.ok s2 (L++Y) _ a5 n5 c5 W5 ⟨I.st.trans F.st,by rw[I.o.f,Eo],by rw[I.o.a,F.o.a,zU],I.e,I.sg,wN F.more I.more,F.b.app I.b⟩ (W4'.f O (λx i=>.inl (.inr i)) hB (λx i=>i.elim (λq=>.inl (.inl (.inl q))) (λq=>q.1.elim (λq=>.inl (.inl (.inr q))) .inr))) R5 ?_);exact⟨O.os.trans N.os,O.g.trans N.g,O.f.trans N.f,wN N.h O.h,λx i t=>(O.d x (wX i N.h) (λq=>oG ((R1.e x q).1) v.h)).trans (N.d x i t)⟩
  ·obtain⟨F',e1,S⟩:=f.st;obtain⟨Y,e2⟩:=f.a;have J:=ua (Q.fail s2 (s.c:Int) W4 ⟨⟨F',by rw[e1,F.o.st],S⟩,⟨L++Y,by rw[e2,F.o.a,zU]⟩,f.e,f.sg,wN F.more f.more⟩ (H.g (λ_=>.inl)) (V.c D));unfold yI;clear f H D e1 S e2;go_wp2;exact wL (by simp[results,f67,go_sem]) rfl J
  have J:=ua (Q.b (s.c:Int) _ H (V.c D));unfold yI;clear H D;go_wp2;exact wL (by simp[results,f67,go_sem]) rfl J
 ·have J:=ua (Q.fail s' (s.c:Int) Z f G ((vk v).c E));unfold yI;clear f G E;go_wp2;exact wL (by simp[results,f67,go_sem]) rfl J
 have J:=ua (Q.b (s.c:Int) _ G ((vk v).c E));unfold yI;clear G E;go_wp2;exact wL (by simp[results,f67,go_sem]) rfl J
def EC.h.of{K:EC}{A:Np}{s d}{q:Nat}{W}{P:Ew}(h:K.h A s q W P)(g:d.st=s.st)(i:d.a=s.a)(j:s.b<=d.b)(k:d.c=s.c):K.h A d q W P :=
 ⟨λs' L B a n c W' f=>h.ok s' L B a n c W' ⟨f.st.trans g,f.f,by rw[f.a,i],f.e,f.sg,wN j f.more,k▸f.b⟩,λs' z W' f=>h.fail s' z W' ⟨by rw[<-g];exact f.st,by rw[<-i];exact f.a,f.e,f.sg,wN j f.more⟩,h.b⟩
def ZK{s:wD}{l:List Cp}{f:Cp}(h:s.st=l++[f])(b:f.e=0)(il:Nat)(I:Nat->Int){mO z:Int}:s.q (ins 2 0 z) il I mO={ s with f:=z,st:=l }:=by
 have c:s.s 0=true:=by unfold wD.s;rw[h,Ot];simp[b]
 have a:s.st.dropLast=l:=by simp[h]
 unfold wD.q;simp[ins,c,wD.r,a]
def ZL(hK:K.Ok)(o:OpD)(hk:o.e=5)(x y:TR)(ix:K.e m x)(iy:K.e m y):K.e m (.bn o x y):=by
 intro bb off c p l pv dv nv A s W P hl ab hc hn hT J ae ax am ao he hs hw hA hm hR;have HT:=ua hT;have HO:=ua ab;simp only[TR.n]at hc hn hl;subst ax;obtain⟨D,hy,T,⟨sa,sc,c1,ay⟩,c2⟩:=hT;have N:=hw.u;replace T:=ue T N;replace c1:=ue c1 N;replace c2:=ue c2 N;obtain⟨k,af⟩:=nm (x.n+y.n);have aq:=ua af;have nx:=x.n0;have ny:=y.n0;rw[af]at T c1 c2 hc hn hl;subst hl;obtain⟨j,Y⟩:=nm x.n;have HJ:=ua Y;rw[Y]at nx af;have x2:((k+1:Nat):Int)-1=(k:Int):=oM;have x3:(k:Int)<((k+1:Nat):Int):=oM;have z6:=uM k oM;have f1:k<c:=oM;have f2:k<=c:=oM;have f3:¬c=0:=oM;have z7:=uM j oM;have jm:(j:Int)<(k:Int):=oM;have a4:(j:Int)<=(k:Int):=oM;have f4:¬c=j:=oM;have f5:j<=k:=oM;have f6:j<=c:=oM;rw[hk]at T;have az:=ud T;have e:(TR.bn o x y).a (M.bB K.g.nr)=.alt (x.a (M.bB K.g.nr)) (y.a (M.bB K.g.nr)):=by simp[TR.a,M.bB,hk]
 rw[e]at hR J;obtain⟨i,ac⟩:=nm (x.a (M.bB K.g.nr)).c;obtain⟨yl,ah⟩:=nm (y.a (M.bB K.g.nr)).c;simp only[uJ,EX.c,ac,ah]at hR J;obtain⟨hq,hr⟩:=J.h;have HL:=ua J.a.left;have aa:=J.a.b;rw[emit_len,ac]at aa;have ai:=ua aa.h;have ag:=aa.a;rw[show p+1+i+1=p+i+2 by omega]at ag;have av:=ua ac;have aw:=ua ah;have HK:=ua hK;have G:=ua hR;have an:W.heap.size≠K.b:=oH hw.lt;generalize hX:W.alloc (Oc #[Iv 5,Sl sa o.sl sc,Iv o.f] 128)=X;have B:=ua (hX▸um W #[Iv 5,Sl sa o.sl sc,Iv o.f] 128);have KX:Hid (Kf W X):=hX▸wU;have H:Hid (∀S,_->_->Cs 39 #[.pointer (Sm K.b 0)] X S):=λS=>yJ (P:=S) hK (hw.m KX.o) he hs ae hq
 rw[hr]at H;have a1:dv<=1000:=oG hs.c hK.m1;have a0:0<=dv:=oM;have HD:=ua am;have aj:=ua ao;have ap:=ua ae;have HA:=ua hA;have HM:=ua hm;have IX:=ua (ix bb off c (p+1) j · (dv+1) nv A · · · Y.symm ab.2.2.1 oM oM D HL.o);have IY:=ua (iy bb (off+j*3) (c-j) (p+i+2) (k-j) · dv nv A · · · oM ab.2.2.2 oM oM (Y▸hy) ag);clear hR ay ao ae hs he hw ab J N hk e hr am hA hm ix iy D hy aa ag ac ah Y;go_enter func67,ntmps67;obtain⟨z,p',lz⟩:=B.o.x;go_wp2_with fail;clear z p' lz;refine H.o _ (λW1 w1 Z e1 I l1=>?_) (λW1 w1 Z=>?_)
 rotate_left
 ·go_wp2;exact wL (by simp[results,f67,go_sem]) rfl (G.o.b (s.c:Int) _ w1 ((vk KX.o).c Z))
 obtain⟨z,p',lz⟩:=(jX Z B.o an).x;have ad:=ua Z;have HE:Hid (K.E (({ s.g with f:=s.f+1 }:wD).n ⟨0,((p+i+2:Nat):Int),s.c,s.a.length⟩ K.a)):=e1;have Q:Hid (K.Sg { s.g with f:=s.f+1 }):=⟨I.e,I.thr,I.a,I.st,I.c⟩;have HW:Hid (K.Wd A { s.g with f:=s.f+1 } W1):=w1.d rfl rfl rfl rfl;clear e1 I w1 Z H;go_wp2_with fail;refine Pa HK.o (by rw[HD.o];rfl) HW.o Q.o (λW2 w2 k2 l2=>?_) (λW2 h1 h2 k2=>?_)
 rotate_left
 ·have V:=h2 (Ends.d (by have:=HE.o;rw[h1]at this;exact this) rfl);go_wp2;exact wL (by simp[results,f67,go_sem]) rfl (G.o.b (s.c:Int) _ V (((vk KX.o).c ad.o).c k2))
 obtain⟨z,p',lz⟩:=(jX (ad.c k2) B an).x;have R:=ua (((vk KX).c ad).c k2);replace HE:=ua (jC ⟨0,((p+i+2:Nat):Int),s.c,s.a.length⟩ l2▸HE.o);have ak:=ua w2;have a3:=l1;have L2:=ua (Wu (w:=W2) (c:=c) (HT.q w2.u) HO aq oM);go_wp2_with fail;refine L2.mono ?_;rintro e W0 ⟨rfl,h0⟩;subst h0;rw[HJ.o];go_wp2_with fail;obtain⟨s1,t⟩:=nm ({ s.g with f:=s.f+1,st:=s.st++[⟨0,((p+i+2:Nat):Int),s.c,s.a.length⟩] }:wD);have i1:s1.st=s.st++[⟨0,((p+i+2:Nat):Int),s.c,s.a.length⟩]:=t▸rfl;have i2:s1.a=s.a:=t▸rfl;have i3:s1.b=s.b+1:=t▸rfl;have i6:s1.c=s.c:=t▸rfl;have al:Hid (∀x,A x->x<W2.heap.size):=λy hy=>wX (HA y hy) R.h
 refine IX _ s1 W2 _ ?_ (t▸rfl) ?_ ?_ ?_ ?_ (t▸ak.d rfl rfl rfl rfl) al ?_ ⟨λs' L B' a n c' W3 f w3 r O=>?_,λs' z3 W3 f w3 O=>?_,λz3 W3 w3 O=>?_⟩
 ·rw[<-t];show s.f+1=_;rw[ap.o];rfl
 ·rw[i1,HD.o];simp
 ·unfold wD.l at *;rw[aj.o,i1,Yk];simp
 ·exact t▸HE.o
 ·exact t▸⟨Q.e,Q.thr,Q.a,Q.st,by have h:(s.st.length:Int)<K.a:=l2;show((s.st++[_]).length:Int)<=_;rw[wK,Bs];omega⟩
 ·rw[i3];have:=HM.o;omega
 ·have K4:=ua (R.c O);have F:=ua f;have i4:=f.st.trans i1;have q1:=f.f;rw[av.o]at q1;have H:=ua (λS=>yJ (P:=S) HK w3 f.e f.sg q1 ai.1);rw[ai.o.2]at H;have R1:=ua r;unfold yI;go_wp2_with fail;refine H _ (λW4 w4 k5 e4 U l4=>?_) (λW4 w4 k5=>?_)
  ·rw[ZK (s:=s'.g) i4 rfl]at e4;have v:=ua (G.ok { s'.g with f:=((p+i+yl+2:Nat):Int),st:=s.st } L B' a n c' W4 ⟨rfl,by show((p+i+yl+2:Nat):Int)=_;simp only[Int.natCast_inj];omega,by show s'.a=_;rw[F.o.a,i2],e4,⟨U.e,U.thr,U.a,U.st,by have:=U.c;rw[show s'.g.st=_ from i4]at this;simp at this;show(s.st.length:Int)<=_;omega⟩,by have:=F.more;show s.b<=s'.b+1;omega,i6▸F.b⟩ (w4.d rfl rfl rfl rfl) ((R1.b R.h).m k5 (λx D N=>by have:=(R1.e x N).1;have:=ak.lt;have D:x=K.b:=D;omega)) (K4.c k5));go_wp2;exact wL (by simp[results,f67,go_sem];rfl) rfl v
  have v:=ua (G.b (s.c:Int) _ w4 (K4.c k5));go_wp2;exact wL (by simp[results,f67,go_sem]) rfl v
 ·obtain⟨s2,h1,h2,V,h4,h5,h6,h7,_,h8⟩:=f.to (s:=s) i1 (by show(0:Int)≠2;decide) rfl i2 rfl oM;have h5':s2.c=s.c:=h5;have C:=ua (IY.o (s.c:Int) s2 W3 (Ts P) h6 (by rw[h5']) (by rw[V];exact HD.o) (by unfold wD.l at *;rw[V];exact aj.o) h1 h2 (h8 _ _ w3) (λx D=>wX (al.o x D) O.h) (oH HM.o) (by have:=(((G.o.of V h4 h7 h5').e (R.o.c O)).d);rw[aw.o,show p+i+2+yl=p+(i+yl+2) by omega];exact this));unfold yI;go_wp2_with fail;refine C.mono ?_;rintro e W4 ⟨h,z2,a2,n2,c2,rfl,v⟩;have au:=ua v;unfold yI;go_wp2;exact wL (by simp[results,f67,go_sem]) rfl au
 have v:=ua (λz=>G.b z _ w3 (R.c O));unfold yI;go_wp2;exact wL (by simp[results,f67,go_sem]) rfl (v z3)
end
def y5 w:(zeroValue 113).run prog w=.ok (.agg #[Iv 0,Iv 0]) w:=rR
def uu7 v w:(Instr.typeAssert (.iface 113 v) 20 113 true).run prog w=.ok (.tuple #[v,Bt]) w:=by simp[Instr.typeAssert,run_underlying underlying113]
def uu8 w:(Instr.typeAssert .nilIface 20 113 true).run prog w=.ok (.tuple #[.agg #[Iv 0,Iv 0],Bf]) w:=by simp[Instr.typeAssert,run_underlying underlying113,y5]
attribute [local go_sem] uu7 uu8
def y6:f97.results=#[]:=rR
def y7 G C A w :
  CallsD prog 97 #[.pointer (Sm G 0),.pointer (Sm C 0),.pointer (Sm A 0)] .returning w λe d w'=>e=Rt (.tuple #[])/\d=.returning/\Kf w w':=by
 refine callsD_of_wpS func97 rfl λc cs b=>?_
 apply wpS_seq;apply wpS_region;simp[wpOpsS,go_sem,recoverD,b,ntmps97,Exit.thenS];apply wpS_seq;apply wpS_region;simp[wpOpsS,go_sem,recoverD,b,ntmps97,Exit.thenS];refine wpS_cond (t:=false) (by simp[Act.eval,Array.replicate]) ?_;simp only[Kr,if_false];refine wpS_of_wp (wp_skip ?_);cases c;simp_all[bodyPostS,results,y6];exact wU
def PM(G C A:Nat)(c p:Int)(w w':Wl):Prop :=
 wA (λb=>b=G\/b=C\/b=A) w w'/\w'.cell? (Ad G 0)=some nS/\w'.cell? (Ad G 1)=some nS/\w'.cell? (Ad C 0)=some (Iv c)/\w'.cell? (Ad A 0)=some (Iv p)
def y8 G C A c p w(u:G≠C)(s:G≠A)(r:C≠A){u0 u1 u2 u3}(o:w.cell? (Ad G 0)=some u0)(L:w.cell? (Ad G 1)=some u1)(n:w.cell? (Ad C 0)=some u2)(m:w.cell? (Ad A 0)=some u3)(I:w.frozen? (Ad G 0)=false)(J:w.frozen? (Ad G 1)=false)(H:w.frozen? (Ad C 0)=false)(F:w.frozen? (Ad A 0)=false) :
  CallsD prog 97 #[.pointer (Sm G 0),.pointer (Sm C 0),.pointer (Sm A 0)] (.panicking (Fq c p)) w λe D w'=>e=Rt (.tuple #[])/\D=.panicking [{ v:=.iface 113 (.agg #[Iv c,Iv p]),recovered:=true }]/\PM G C A c p w w':=by
 have i:G<w.heap.size:=ud o;have B:C<w.heap.size:=ud n;have y:A<w.heap.size:=ud m;unfold Fq;refine callsD_of_wpS func97 rfl λE cs h=>?_
 apply wpS_seq;apply wpS_region;simp[wpOpsS,go_sem,recoverD,h,ntmps97,Exit.thenS];apply wpS_seq;apply wpS_region;simp[wpOpsS,go_sem,recoverD,h,ntmps97,Exit.thenS];refine wpS_cond (t:=true) (by simp[Act.eval,Array.replicate]) ?_;simp only[if_true];refine wpS_of_wp ?_;simp[Array.replicate];have S:¬G=w.heap.size:=oM;have R:¬C=w.heap.size:=oM;have P:¬A=w.heap.size:=oM;have Q:¬C=G:=λe=>u e.symm
 have O:¬A=G:=λe=>s e.symm
 have N:¬A=C:=λe=>r e.symm
 go_region;have k:PM G C A c p w (((((w.setCell (Ad G 0) nS).setCell (Ad G 1) nS).setCell (Ad C 0) (Iv c)).setCell (Ad A 0) (Iv p)).alloc (Oc #[Iv c,Iv p] 113)).drew:=by
  obtain⟨V,d⟩:∃V,V=(((w.setCell (Ad G 0) nS).setCell (Ad G 1) nS).setCell (Ad C 0) (Iv c)).setCell (Ad A 0) (Iv p):=⟨_,rfl⟩;have x:wA (λb=>b=G\/b=C\/b=A) w V:=by
   rw[d];exact(((zP (C:=λb=>b=G\/b=C\/b=A) (.inl rfl)).c (zP (.inl rfl))).c (zP (.inr (.inl rfl)))).c (zP (.inr (.inr rfl)))
  have g:V.heap.size=w.heap.size:=by rw[d];simp only[uj]
  have f:Kf V (V.alloc (Oc #[Iv c,Iv p] 113)).drew:=wU.c (Bz _);rw[<-d];refine⟨x.c (f.l (λb q=>q.elim)),(f.p (p:=(Ad G 0)) (by rw[g];exact i) (λz=>z)).trans ?_,(f.p (p:=(Ad G 1)) (by rw[g];exact i) (λz=>z)).trans ?_,(f.p (p:=(Ad C 0)) (by rw[g];exact B) (λz=>z)).trans ?_,(f.p (p:=(Ad A 0)) (by rw[g];exact y) (λz=>z)).trans ?_⟩
  ·rw[d];simp[go_sem, *]
  ·rw[d];simp[go_sem, *]
  ·rw[d];simp[go_sem, *]
  rw[d];simp[go_sem, *]
 simp[bodyPostS,results];exact k
end Go.Proofs.YtoihadcablknpaaGreatDoor
