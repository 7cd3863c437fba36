import Derived.Test.YtmlblamikgkdcaaGreatT06
import Derived.Test.YtmlblamikgkdcaaGreatT07
set_option linter.unusedVariables false
set_option linter.unusedSimpArgs false
set_option linter.defProp false
set_option maxHeartbeats 40000000
set_option maxRecDepth 100000
namespace Go.Proofs.YtmlblamikgkdcaaGreat
open Go.RowKit
open Go.Proofs.Tryz
section
open M (OpD ug Gr)
def upZ args w:(callFunc 105 args).run prog w=.ok (.enter 105 args) w:=by simp[callFunc,func105,f105,go_sem]
end
section
def ux8 a b c d e f c' g w:(Op.equalIn 10000 91 (.agg #[Uv a,Uv b,Uv c,Uv d]) (.agg #[Uv e,Uv f,Uv c',Uv g])).run prog w=.ok (a==e&&b==f&&c==c'&&d==g) w:=by
 have u3:=underlying89;have l:=isAgg89;have m:=sizeOf89;rw[show(10000:Nat)=9999+1 from rfl,Op.equalIn];simp only[Nl,run_underlying underlying91,Pf];simp only[Std.Legacy.Range.forIn_eq_forIn_range',Std.Legacy.Range.size,Nat.sub_zero,Nj,Nat.div_one,List.range'_succ,List.range'_zero,List.forIn_cons,List.forIn_nil];go_simp;by_cases h:a=e<;>by_cases i:b=f<;>by_cases j:c=c'<;>by_cases k:d=g<;>simp[h,i,j,k]
def up0(s t:NS)(w:Wl):(binOp .eql 91 (.agg #[Uv s.a,Uv s.b,Uv s.c,Uv s.d]) (.agg #[Uv t.a,Uv t.b,Uv t.c,Uv t.d])).run prog w=.ok (.bool ((s.a:Int)==t.a&&(s.b:Int)==t.b&&(s.c:Int)==t.c&&(s.d:Int)==t.d)) w:=by
 rw[run_eql_struct,ux8];rfl
def up2(s t:NS)(w:Wl)(f:s.OK)(g:t.OK) :
  Cs 104 #[.agg #[Uv s.a,Uv s.b,Uv s.c,Uv s.d],.agg #[Uv t.a,Uv t.b,Uv t.c,Uv t.d]] w λe w'=>(∃r:NS,r=s.e t/\e=Rt (.agg #[Uv r.a,Uv r.b,Uv r.c,Uv r.d]))/\Bw w w' :=
 (WD s t w f g).mono (λe w' h=>⟨⟨_,rfl,h.1⟩,h.2⟩)
def usF(s t:NS)(w:Wl)(l:s.OK)(m:t.OK) :
  Cs 106 #[.agg #[Uv s.a,Uv s.b,Uv s.c,Uv s.d],.agg #[Uv t.a,Uv t.b,Uv t.c,Uv t.d]] w (ID true w):=by
 have j:=l;have k:=m;have v:((w.alloc (Ax s)).alloc (Ax t)).cell? (Ad w.heap.size 0)=some (Uv s.a):=ue (cN w.heap.size rfl rfl) Bi;have x:((w.alloc (Ax s)).alloc (Ax t)).cell? (Ad w.heap.size 1)=some (Uv s.b):=ue (cN w.heap.size rfl rfl) Bi;have y:((w.alloc (Ax s)).alloc (Ax t)).cell? (Ad w.heap.size 2)=some (Uv s.c):=ue (cN w.heap.size rfl rfl) Bi;have z:((w.alloc (Ax s)).alloc (Ax t)).cell? (Ad w.heap.size 3)=some (Uv s.d):=ue (cN w.heap.size rfl rfl) Bi;have n:((w.alloc (Ax s)).alloc (Ax t)).cell? (Ad (w.heap.size+1) 0)=some (Uv t.a):=cN (w.heap.size+1) sM rfl;have y1:((w.alloc (Ax s)).alloc (Ax t)).cell? (Ad (w.heap.size+1) 1)=some (Uv t.b):=cN (w.heap.size+1) sM rfl;have y2:((w.alloc (Ax s)).alloc (Ax t)).cell? (Ad (w.heap.size+1) 2)=some (Uv t.c):=cN (w.heap.size+1) sM rfl;have o:((w.alloc (Ax s)).alloc (Ax t)).cell? (Ad (w.heap.size+1) 3)=some (Uv t.d):=cN (w.heap.size+1) sM rfl;have i:Hid (Bw w ((w.alloc (Ax s)).alloc (Ax t))):=Bm w;have q:∀(r:NS) (W:Wl),(binOp .eql 91 (.agg #[Uv r.a,Uv r.b,Uv r.c,Uv r.d]) (.agg #[Uv t.a,Uv t.b,Uv t.c,Uv t.d])).run prog W=.ok (.bool ((r.a:Int)==t.a&&(r.b:Int)==t.b&&(r.c:Int)==t.c&&(r.d:Int)==t.d)) W:=λr W=>up0 r t W;have u:prog.eqGuardType prog.depth 91=false:=rR;go_enter func106,ntmps106;go_wp2;rw[show Obj.cells #[Uv s.a,Uv s.b,Uv s.c,Uv s.d] 91=Ax s from rfl,show Obj.cells #[Uv t.a,Uv t.b,Uv t.c,Uv t.d] 91=Ax t from rfl];generalize (w.alloc (Ax s)).alloc (Ax t)=X at *;go_region_with (go_at_call 104;refine(up2 s t _ j k).mono ?_;rintro e W ⟨⟨r,g,rfl⟩,f⟩;have p:Hid (r=s.e t):=g;have hb':Bw X W:=(zH X).drew.trans f;have h:Hid (Bw X W):=hb';have A:=ue n hb';have B:=ue y1 hb';have C:=ue y2 hb';have D:=ue o hb';clear g f hb');all_goals go_wp2
 all_goals go_ret
 all_goals exact⟨⟨_,λ_=>rfl,rfl⟩,uf i h⟩
end
namespace M
inductive Pk(R:Nat->Nat->Bool)(k:Nat):Nat->Nat->Prop
 |one {i j:Nat}:R i j=true->Pk R k i j
 |cons {i m j:Nat}:R i m=true->m<k->Pk R k m j->Pk R k i j
section
variable {R:Nat->Nat->Bool} {k:Nat}
def Pk.a{i j:Nat}(h:Pk R (k+1) i j):Pk R k i j\/(Pk R k i k/\Pk R k k j):=by
 induction h with
 |one e=>exact .inl (.one e)
 |@cons i m j e f _ c =>
  by_cases d:m<k
  .rcases c with c|⟨a,b⟩
   .exact .inl (.cons e d c)
   exact .inr ⟨.cons e d a,b⟩
  obtain rfl:m=k:=oM;rcases c with c|⟨_,b⟩
  .exact .inr ⟨.one e,c⟩
  exact .inr ⟨.one e,b⟩
end
def Warsh(R:Nat->Nat->Bool)(n k:Nat)(T:Nat->Nat->Bool):Prop:=∀i j,i<n->j<n->Pk R k i j->T i j=true
def Warsh.c{R n}:Warsh R n 0 R:=λi j _ _ h=>by
 cases h with
 |one e=>exact e
 |cons _ a _=>omega
def Warsh.a{R n k T e}(h:Warsh R n k T)(f:k<n)(g:∀i j,i<n->j<n->e i j=(T i j||(T i k&&T k j))):Warsh R n (k+1) e:=by
 intro i j c d p;rw[g i j c d];rcases p.a with q|⟨a,b⟩
 .rw[h i j c d q];rfl
 rw[h i k c f a,h k j f d b];simp
def Pk.h{R R' k}(h:∀i j,R i j=true->R' i j=true){i j}(p:Pk R k i j):Pk R' k i j:=by
 induction p with
 |one e=>exact .one (h _ _ e)
 |cons e a _ b=>exact .cons (h _ _ e) a b
structure Srch(R:Nat->Nat->Bool)(n node:Nat)(S S':Nat->Bool):Prop where
 up:∀v,v<n->S v=true->S' v=true
 a:∀v,v<n->S' v=true->S v=false->Pk R n node v
def Srch.c R n node S:Srch R n node S S :=
 ⟨λ_ _ h=>h,λv _ h a=>aB (h.symm.trans a) dC⟩
def Srch.b{R n node k S d f g}(q:k<n)(h:Srch R n node S d)(o:R node k=true)(l:∀v,v<n->f v=(d v||v==k))(m:Srch R n k f g):Srch R n node S g:=by
 refine⟨λv c e=>m.up v c (by rw[l v c,h.up v c e];rfl),λv c e p=>?_⟩;by_cases i:d v=true
 .exact h.a v c i p
 by_cases j:v=k
 .subst j;exact .one o
 exact .cons o q (m.a v c e (by rw[l v c];simp[j];simpa using i))
end M
section
open M (OpD ug Gr)
def RU(U:Nat->NS)(v u:Nat):Bool:=(U v).j u
structure Gb(W:Wl)(bb fb sb ub uo n uc:Nat)(U:Nat->NS):Prop where
 e:W.cell? (Ad bb 0)=some (Sl (Sm ub uo) n uc)
 fn:W.cell? (Ad fb 0)=some (.func (.func 155) #[] #[.pointer (Sm bb 0),.pointer (Sm sb 0),.pointer (Sm fb 0)])
 m:Fq W ub uo n U
 n1:¬bb=sb
 n2:¬fb=sb
 n3:¬ub=sb
def Gb.y{W W' g j l f q n o U}(h:Gb W g j l f q n o U)(k:zA (λx=>x=l) W W'):Gb W' g j l f q n o U :=
 ⟨(k.p (p:=(Ad g 0)) (ud h.e) h.n1).trans h.e,(k.p (p:=(Ad j 0)) (ud h.fn) h.n2).trans h.fn,
  λi r=>let⟨a,b,c,d⟩:=h.m i r
   ⟨(k.p (p:=(Ad f _)) (ud a) h.n3).trans a,(k.p (p:=(Ad f _)) (ud b) h.n3).trans b,(k.p (p:=(Ad f _)) (ud c) h.n3).trans c,(k.p (p:=(Ad f _)) (ud d) h.n3).trans d⟩,h.n1,h.n2,h.n3⟩
def vC{C W W'}(h:Bw W W'):zA C W W':=zA.j h (λk a _=>a)
def VC W b s:zA (λx=>x=b) W (Il W b s):=by
 unfold Il;exact(((zA.b (C:=λx=>x=b) _ (Ad b 0) _ rfl).c (zA.b (C:=λx=>x=b) _ (Ad b 1) _ rfl)).c (zA.b (C:=λx=>x=b) _ (Ad b 2) _ rfl)).c (zA.b (C:=λx=>x=b) _ (Ad b 3) _ rfl)
structure VD(n node sb:Nat)(U:Nat->NS)(S:NS)(W:Wl)(e:Ending)(W':Wl):Prop where
 ret:∃v,e=Rt v
 k:∃S':NS,S'.OK/\At W' sb S'/\M.Srch (RU U) n node S.j S'.j
 y:zA (λx=>x=sb) W W'
def VE(n node b:Nat)(U:Nat->NS)(S:NS)(W:Wl)(c:Vl)(wr:Wl):Prop :=
 ∃(k:Nat) (a:NS),k<=n/\c=Iv (k:Int)/\a.OK/\At wr b a/\M.Srch (RU U) n node S.j a.j/\zA (λx=>x=b) W wr
def ukO o l f N P n O U(hn:n<=200)(hU:∀i,i<n->(U i).OK)d:∀(S:NS) (node:Nat) (W:Wl),n-M.cnt S.j n<=d->node<n->S.OK->Gb W o l f N P n O U->At W f S ->
  Cs 155 #[Iv (node:Int),.pointer (Sm o 0),.pointer (Sm f 0),.pointer (Sm l 0)] W (VD n node f U S W):=by
 induction d using Nat.strongRecOn with
 |_ d ih =>
  intro S node W hd af hS D Z;have IH:Hid (∀m,m<d->∀(S:NS) (node:Nat) (W:Wl),n-M.cnt S.j n<=m->node<n->S.OK->Gb W o l f N P n O U->At W f S ->
   Cs 155 #[Iv (node:Int),.pointer (Sm o 0),.pointer (Sm f 0),.pointer (Sm l 0)] W (VD n node f U S W)):=ih
  have HH:=ua D;have HA:=ua Z;have HS:=hS;have HU:=ua hU;have HD:=ua hd;have b0:=D.e;clear ih D Z hS hU hd;go_enter func155,ntmps155;go_wp2;go_loopw [8] (λL wr=>VE n node f U S W L wr) (λL _=>n-(intOf L).toNat)
  .exact⟨0,S,zK,rfl,HS,HA,M.Srch.c _ _ _ _,Cc⟩
  obtain⟨k,g,hk,rfl,ac,aa,ai,G⟩:=hrel;have HS':=ac;have HA':=ua aa;have s:=ua ai;have A:=ua G;have HH':=ua (HH.y G);clear ac aa ai G b0;by_cases H:k<n
  .have b1:=HH'.e;let⟨x0,x1,x2,x3⟩:=HH'.m node af;have Y:Hid (U node).OK:=HU node af;by_cases B:(U node).j k=true
   .have X:Hid ((U node).j k=true):=B;go_wp2_with fail;refine(Qe (U node) k Y oM).mono ?_;rintro e W2 ⟨rfl,p⟩;have z:=ua p;have Q:=ua (HA'.h p);let⟨m0,m1,m2,m3⟩:=Q.b;clear p x0 x1 x2 x3 b1;go_wp2_with fail;refine(Qe g k HS' oM).mono ?_;rintro e W3 ⟨rfl,E⟩;have R:=ua (uf z E);have w:=ua (Q.h E);let⟨e0,e1,e2,e3⟩:=w.b;let⟨d0,d1,d2,d3⟩:=w.r;clear E m0 m1 m2 m3;by_cases I:g.j k=true
    .have ak:Hid (g.j k=true):=I;go_wp2;go_roundw
     .exact⟨k+1,g,oM,by go_num,HS',w,s,A.c (vC R)⟩
     simp[intOf];omega
    have ah:g.j k=false:=(by simpa using I);have ak:=ua ah;clear I;go_wp2_with fail;refine(AT g k _ HS' oM).mono ?_;rintro e W4 ⟨⟨t,J,rfl⟩,F⟩;have HT:=ua J;have T:=ua (uf R F);have C:=ua (w.h F);let⟨av,aw,ax,ay⟩:=C.b;let⟨ao,ap,aq,au⟩:=C.r;have al:Hid t.OK:=(by show t.OK;rw[J];exact HS'.n k);have V:Hid (Gb (Il W4 f t) o l f N P n O U):=(HH'.y (vC T)).y (VC W4 f t);have A5:Hid (At (Il W4 f t) f t):=C.set t;have K5:Hid (zA (λx=>x=f) wr (Il W4 f t)):=(vC T.o).c (VC W4 f t);have f5:((((W4.setCell (Ad f 0) (Uv t.a)).setCell (Ad f 1) (Uv t.b)).setCell (Ad f 2) (Uv t.c)).setCell (Ad f 3) (Uv t.d)).cell? (Ad l 0)=some (.func (.func 155) #[] #[.pointer (Sm o 0),.pointer (Sm f 0),.pointer (Sm l 0)]):=V.o.fn;have ag:Hid (∀v,v<n->t.j v=(g.j v||v==k)):=λv hv=>by rw[HT.o,AV oM oM]
    have am:Hid (n-M.cnt t.j n<d):=by
     show _<_;have c1:M.cnt t.j n=M.cnt g.j n+1:=by
      rw[<-M.dY g.j k n H ah];have:∀q,q<=n->M.cnt t.j q=M.cnt (λu=>g.j u||u==k) q:=by
       intro q hq;induction q with
       |zero=>rfl
       |succ q an=>rw[M.cnt,M.cnt,an oM,ag.o q oM]
      exact this n zD
     have c2:=M.cZ S.j g.j n s.o.up;have c3:=M.dM t.j n;have:=HD.o;omega
    clear F J e0 e1 e2 e3 d0 d1 d2 d3;go_wp2_with fail;refine(IH.o _ am.o t k _ zD H al.o V.o A5.o).mono ?_;rintro e W6 ⟨⟨v,rfl⟩,⟨S3,ad,ab,aj⟩,ae⟩;have HE:Hid (VE n node f U S W (Iv ((k+1:Nat):Int)) W6):=⟨k+1,S3,oM,rfl,ad,ab,M.Srch.b H s X ag aj,(A.c K5).c ae⟩;clear ad ab aj ae;go_wp2;go_roundw
    .exact HE
    simp[intOf];omega
   have az:(U node).j k=false:=(by simpa using B);have X:=ua B;clear B;go_wp2_with (go_at_call 102;refine(Qe (U node) k Y oM).mono ?_;rintro e W2 ⟨rfl,p⟩;have z:Hid (Bw wr W2):=p;clear p);go_roundw
   .exact⟨k+1,g,oM,by go_num,HS',HA'.h z,s,A.c (vC z)⟩
   simp[intOf];omega
  obtain rfl:k=n:=oM;go_wp2;go_end0;exact⟨⟨_,rfl⟩,⟨g,HS',HA',s⟩,A⟩
def ufu c g n l d U w(m:Fq w c g n U)(t:∀i,i<n->(U i).OK)(L:n<=200)(o:d<n)(s:¬M.Pk (RU U) n d d) :
  Cs 107 #[Sl (Sm c g) n l,Iv (d:Int)] w λe w'=>e=Rt Bf/\Bw w w':=by
 have G:Hid (Fq w c g n U):=m;have E:Hid (∀i,i<n->(U i).OK):=t;have D:=ua s;have Q:c<w.heap.size:=ud (m d o).1;have P:∀(a:Addr) (f:Fn) (p ys:Av) (W:Wl),(store a (.func f p ys)).run prog W=stored prog W a (.func f p ys) .plain:=λa f p ys W=>run_store prog W a _ .plain rfl;clear m t s;have u:Hid (At (((w.alloc (Oc #[Sl (Sm c g) n l] 93)).alloc (Oc #[Uv 0,Uv 0,Uv 0,Uv 0] 91)).alloc (Oc #[.func (.func 155) #[] #[.pointer (Sm w.heap.size 0),.pointer (Sm (w.heap.size+1) 0),.pointer (Sm (w.heap.size+1+1) 0)]] 254)) (w.heap.size+1) nz):=by
  have:=At.a (w.alloc (Oc #[Sl (Sm c g) n l] 93)) nz;rw[Ck]at this;exact this.h Bi
 have y:Hid (Bw w (((w.alloc (Oc #[Sl (Sm c g) n l] 93)).alloc (Oc #[Uv 0,Uv 0,Uv 0,Uv 0] 91)).alloc (Oc #[.func (.func 155) #[] #[.pointer (Sm w.heap.size 0),.pointer (Sm (w.heap.size+1) 0),.pointer (Sm (w.heap.size+1+1) 0)]] 254))):=Lk w _ _ _;have C:Hid (Gb (((w.alloc (Oc #[Sl (Sm c g) n l] 93)).alloc (Oc #[Uv 0,Uv 0,Uv 0,Uv 0] 91)).alloc (Oc #[.func (.func 155) #[] #[.pointer (Sm w.heap.size 0),.pointer (Sm (w.heap.size+1) 0),.pointer (Sm (w.heap.size+1+1) 0)]] 254)) w.heap.size (w.heap.size+1+1) (w.heap.size+1) c g n l U):=⟨ue (ue (cN w.heap.size rfl rfl) Bi) Bi,cN (w.heap.size+1+1) sM rfl,G.o.h (Lk w _ _ _),oM,oM,oM⟩;have O:(((w.alloc (Oc #[Sl (Sm c g) n l] 93)).alloc (Oc #[Uv 0,Uv 0,Uv 0,Uv 0] 91)).alloc (Oc #[.nilFunc] 254)).cell? (Ad (w.heap.size+1+1) 0)=some .nilFunc:=cN (w.heap.size+1+1) sM rfl;have Y:(((w.alloc (Oc #[Sl (Sm c g) n l] 93)).alloc (Oc #[Uv 0,Uv 0,Uv 0,Uv 0] 91)).alloc (Oc #[.nilFunc] 254)).frozen? (Ad (w.heap.size+1+1) 0)=false:=qU _ 254 (w.heap.size+1+1) 0 sM sM;go_enter func107,ntmps107;go_wp2_with fail;refine(ukO w.heap.size (w.heap.size+1+1) (w.heap.size+1) c g n l U L E n nz d _ (Nat.sub_le _ _) o NS.OK.f C u).mono ?_;rintro e W ⟨⟨v,rfl⟩,⟨S,I,H,N⟩,r⟩;have B:=ua (show S.j d=false by
  cases q:S.j d with
  |false=>rfl
  |true=>exact absurd (N.a d o q (Sf d)) D)
 have F:=I;have x:=ua H;have A:=ua (y.trans (r.below sO (λk r=>oM)));let⟨R,T,V,X⟩:=x.b;go_wp2_with fail;refine(Qe S d F oM).mono ?_;rintro e W2 ⟨rfl,J⟩;have z:=ua (uf A J);rw[B.o];go_wp2;go_ret;exact⟨rfl,z⟩
end
namespace M
section
variable {α:Type} [Inhabited α] (f:OpD->α->α->α) (B:Nat->OpD)
def usG(q lo:Nat)(x:α)(a:ar (B q).e=0)(e:stk f B (q+1)=(lo,x)::stk f B lo):lo=q/\x=f (B q) default default:=by
 rw[stk]at e;simp[stp,a]at e;exact⟨e.1.1.symm,e.1.2.symm⟩
def ar6:ar 6=1:=rfl
def Loop(b:α->Bool)(lo a:Nat):Prop:=∃i,lo<=i/\i<a/\(B i).e=6/\b (top (stk f B i))=true
def fD(d m:α->Bool)(k:∀o x y,d (f o x y)=(if o.e=6 then m x||d x else if ar o.e=2 then d x||d y else if ar o.e=1 then d x else false))(b:Nat) :
  ∀lo x,Fed B b->stk f B b=(lo,x)::stk f B lo->d x=true->Loop f B m lo b:=by
 induction b using Nat.strongRecOn with
 |_ b l =>
  intro lo x c e;let⟨w,_,_⟩:=cC f B b c lo x _ e;obtain⟨q,rfl⟩:∃q,b=q+1:=⟨b-1,oM⟩;rcases cH (B q).e with a|a|a
  .obtain⟨rfl,rfl⟩:=usG f B q lo x a e;rw[k,Zn (λh=>by rw[h,ar6]at a;omega),a];simp
  .obtain⟨y,A,st,rfl⟩:=CE f B q lo x c a e;have I:=λh=>let⟨i,p,t,h3⟩:=l q oM lo y (c.h oM) st h;(⟨i,p,oM,h3⟩:Loop f B m lo (q+1))
   rw[k];by_cases j:(B q).e=6
   .rw[Zp j,Pl];exact λh=>h.elim (λh=>⟨q,oM,oM,j,by rw[st];exact h⟩) I
   rw[Zn j,a,Zn dC,Zp rfl];exact I
  obtain⟨s,y,z,p,t,u,v,rfl,_,_⟩:=KT f B q lo x c a e;rw[k,Zn (λh=>by rw[h,ar6]at a;omega),a,Zp rfl,Pl];rintro (h|h)
  .let⟨i,n,r,g⟩:=l s oM lo z (c.h oM) v h;exact⟨i,n,oM,g⟩
  let⟨i,n,r,g⟩:=l q oM s y (c.h oM) u h;exact⟨i,oM,oM,g⟩
end
end M
section
open M (OpD ug Gr)
def uwW(f h i n A x:Nat)(U:Nat->NS)(S:NS)(W:Wl)(s:W.cell? (Ad f 0)=some (Sl (Sm h i) n A))(v:Fq W h i n U)(z:x<n)(B:n<=200)(w:(U x).OK)(t:S.OK) :
  Cs 105 #[Iv (x:Int),.agg #[Uv S.a,Uv S.b,Uv S.c,Uv S.d],.pointer (Sm f 0)] W (ID true W):=by
 let⟨o,p,q,c3⟩:=v x z;have k:Hid (Bw W (W.alloc (Ax S))):=zO W;have y2:=uG (Ax S) s;have G:=uG (Ax S) o;have H:=uG (Ax S) p;have I:=uG (Ax S) q;have J:=uG (Ax S) c3;let⟨C,D,E,F⟩:=(At.a W S).b;have l:Hid (U x).OK:=w;have m:=t;generalize U x=u at *;go_enter func105,ntmps105;go_wp2;rw[show(Obj.cells #[Uv S.a,Uv S.b,Uv S.c,Uv S.d] 91)=Ax S from rfl];generalize W.alloc (Ax S)=X at *;go_region_with (go_at_call 106;refine(usF u S _ l m).mono ?_;rintro e W2 ⟨⟨r,y,rfl⟩,g⟩;have j:Hid (Bw W W2):=uf k ((zH X).drew.trans g);clear g y);all_goals go_wp2
 all_goals go_ret
 all_goals exact⟨⟨_,λ_=>rfl,rfl⟩,j⟩
def lrI(W1:Wl)(n:Nat)(a:Vl)(wr:Wl):Prop :=
 ∃k:Nat,k<=n/\a=Iv (k:Int)/\Bw W1 wr
def ucn l m n o U w(H:Fq w l m n U)(aa:∀i,i<n->(U i).OK)(G:0<n)(y:n<=200)(Z:∀q,q<n->¬M.Pk (RU U) n q q) :
  Cs 41 #[Sl (Sm l m) n o] w λe w'=>e=Rt (Iv (-1))/\Bw w w':=by
 have u:=ua H;have t:=ua aa;have T:=ua Z;have ad:=ud (H 0 G).1;have F:(w.alloc (Oc #[Sl (Sm l m) n o] 93)).cell? (Ad w.heap.size 0)=some (Sl (Sm l m) n o):=cN w.heap.size rfl rfl;have s:Hid (Bw w (w.alloc (Oc #[Sl (Sm l m) n o] 93))):=zO w;go_enter func41,ntmps41;go_wp2_with fail;generalize w.alloc (Oc #[Sl (Sm l m) n o] 93)=X at *;refine(VB (f:=105) (ps:=#[.pointer (Sm w.heap.size 0)]) l m n o U (λ_ _=>true) X upZ (u.h s) t G y ⟨λ_ _ _ _ _ h=>h⟩
  (λx O S v W I=>uwW w.heap.size l m n o x U S W (ue F I) ((u.h s).h I) O y (t x O) v)).mono ?_
 rintro e W1 ⟨⟨S,v,hL,rfl⟩,g⟩;have E:=v;have b1:=ue F g;have P:Hid (Bw w W1):=uf s g;have l1:=ud b1;unfold Hk;go_wp2;rw[show(Obj.cells #[Uv S.a,Uv S.b,Uv S.c,Uv S.d] 91)=Ax S from rfl];have A:=ua (At.a W1 S);have V:(W1.alloc (Ax S)).cell? (Ad w.heap.size 0)=some (Sl (Sm l m) n o):=uG _ b1;have Q:Hid (Bw w (W1.alloc (Ax S))):=uf P.o (zO W1);generalize W1.alloc (Ax S)=W4 at *;let⟨sb,N⟩:=nm W1.heap.size;rw[N]at A;rw[N];go_loopw [10] (λz wr=>lrI W4 n z wr) (λz _=>n-(intOf z).toNat)
 .exact⟨0,zK,rfl,zH _⟩
 obtain⟨k,hk,rfl,r⟩:=hrel;have C:=ua r;have D:=ua (uf Q r);have B:=ua (A.h r);have Y:=ue V r;let⟨m0,m1,m2,m3⟩:=B.b;have ls:=B.lt;by_cases L:k<n
 .by_cases J:S.j k=true
  .have HG:Hid (S.j k=true):=J;go_wp2_with (go_at_call 102;refine(Qe S k E oM).mono ?_;rintro e W ⟨rfl,g⟩;have p:Hid (Bw wr W):=g;clear g);go_roundw
   .exact⟨k+1,oM,by go_num,uf C p⟩
   simp[intOf];omega
  have ac:S.j k=false:=by simpa using J
  go_wp2_with fail;refine(Qe S k E oM).mono ?_;rintro e W ⟨rfl,g⟩;have p:=ua g;have ab:=ue Y g;go_wp2_with fail;refine(ufu l m n o k U _ ((u.h D).h p) t y L (T k L)).mono ?_;rintro e W7 ⟨rfl,g⟩;have R:=ua (uf p g);go_wp2;go_roundw
  .exact⟨k+1,oM,by go_num,uf C R⟩
  simp[intOf];omega
 obtain rfl:k=n:=oM;go_wp2;go_ret;exact⟨rfl,D⟩
end
open M (OpD ug Gr)
def Mk.a{D w w1 w' e}(k:Kf w w1)(h:Mk D w1 e w'):Mk D w e w':=by
 obtain⟨a,c,f,i,j⟩:=h;exact⟨a,c,f,i.g (λb d=>⟨zP k.l d.1,d.2⟩),k.c j⟩
structure Rp(Q:Np)(w:Wl)(ra la:Oa)(rs ls:List LI):Prop where
 r:Ff Q w ra rs
 l:Ff Q w la ls
 rb:∀y∈rs,zW y
 lb:∀y∈ls,zW y
 rl:rs.length<=1048576
 ll:ls.length<=1048576
def Rp.h{Q w w' ra la rs ls}(h:Rp Q w ra la rs ls)(t:Bw w w'):Rp Q w' ra la rs ls :=
 ⟨h.r.h t,h.l.h t,h.rb,h.lb,h.rl,h.ll⟩
def Y9 Q t a ra la c rc lc rs ls w(p:Bh Q w a [t])(d:Rp Q w ra la rs ls)(u:t.e=110)(q:zW t.nm)(A:1<=c) :
  Cs 134 #[Sl a 1 c,Sl ra rs.length rc,Sl la ls.length lc] w (Mk (uv 2 (vN t.nm rs 0)) w):=by
 obtain⟨b,off,rfl,s⟩:=p.at (i:=0) sM;have g:=s 0 t rfl;have h:=g.e;let⟨na,nc,v,n⟩:=g.nm;simp only[Gf,Dy]at h v;rw[u]at h;have j:=ua (qH Q Q rs t.nm ra na rc nc w d.r n d.rb q d.rl);generalize vN t.nm rs 0=x at *;go_enter func134,ntmps134;go_wp2_with fail;refine j.mono ?_;rintro e W ⟨rfl,m,rfl⟩;go_wp2_with fail;refine(vU 2 x (w.drewN m)).mono ?_;intro e W o;have f:Hid (Mk (uv 2 x) w e W):=o.a (ur w m);obtain⟨y,z,rfl,k,l⟩:=f.o;clear k l;go_wp2;go_ret;exact f.o
def Z0 Q t a ra la c rc lc nr r w(n:Bh Q w a [t])(q:t.e=46)(v:1<=c) :
  Cs 134 #[Sl a 1 c,Sl ra nr rc,Sl la r lc] w (Mk (uL [0,255]) w):=by
 obtain⟨b,off,rfl,o⟩:=n.at (i:=0) sM;have l:=o 0 t rfl;have g:=l.e;simp only[Gf,Dy]at g;rw[q]at g;have h:Hid (Cs 52 #[Sl (Sm w.heap.size 0) 2 2] (w.alloc (Oc #[Iv 0,Iv 255] 3)) (Mk (uL [0,255]) (w.alloc (Oc #[Iv 0,Iv 255] 3)))):=by
  refine jQ (λ_=>True) (Sm w.heap.size 0) 2 [0,255] _ (.inr ⟨w.heap.size,0,rfl,trivial,λi p=>?_⟩) sM;have f:=xC w (Oc #[Iv 0,Iv 255] 3) _ rfl;match i,p with
  |0,_=>exact uN f rfl
  |1,_=>exact uN f rfl
 go_enter func134,ntmps134;go_wp2_with fail;refine h.mono ?_;intro e W m;have d:Hid (Mk (uL [0,255]) w e W):=m.a zY;obtain⟨s,u,rfl,j,k⟩:=d.o;clear j k;go_wp2;go_ret;exact d.o
def Z1 Q t a ra la c rc lc nr s w(n:Bh Q w a [t])(p:t.e=91)(q:t.set.length<=1048576)(x:1<=c) :
  Cs 134 #[Sl a 1 c,Sl ra nr rc,Sl la s lc] w (Mk (uL t.set) w):=by
 obtain⟨b,off,rfl,o⟩:=n.at (i:=0) sM;have f:=o 0 t rfl;have g:=f.e;let⟨na,nc,r,l⟩:=f.set;simp only[Gf,Dy]at g r;rw[p]at g;have h:=ua (jQ Q na nc t.set w l q);go_enter func134,ntmps134;go_wp2_with fail;refine h.mono ?_;intro e W m;have d:Hid (Mk (uL t.set) w e W):=m;obtain⟨u,v,rfl,j,k⟩:=d.o;clear j k;go_wp2;go_ret;exact d.o
def Z2 Q d t a ra la c rc lc rs ls w(u:Bh Q w a [d,t])(f:Rp Q w ra la rs ls)(y:d.e=94)(z:t.e=110)(v:zW t.nm)(D:2<=c) :
  Cs 134 #[Sl a 2 c,Sl ra rs.length rc,Sl la ls.length lc] w (Mk (uv 3 (vN t.nm ls 0)) w):=by
 obtain⟨b,off,rfl,j⟩:=u.at (i:=0) sM;have k:=(j 0 d rfl).e;have h:=j 1 t rfl;have n:=h.e;let⟨na,nc,A,r⟩:=h.nm;simp only[Gf,Dy,Nat.one_mul]at k n A;rw[y]at k;rw[z]at n;have o:=ua (qH Q Q ls t.nm la na lc nc w f.l r f.lb v f.ll);generalize vN t.nm ls 0=x at *;go_enter func134,ntmps134;go_wp2_with fail;refine o.mono ?_;rintro e W ⟨rfl,m,rfl⟩;go_wp2_with fail;refine(vU 3 x (w.drewN m)).mono ?_;intro e W s;have g:Hid (Mk (uv 3 x) w e W):=s.a (ur w m);obtain⟨B,C,rfl,p,q⟩:=g.o;clear p q;go_wp2;go_ret;exact g.o
def zQ.nil w w':zQ (zF w w') w' nS []:=⟨λ_=>0,[],⟨.inl ⟨rfl,rfl,rfl⟩,λi x a=>by simp at a⟩,rfl⟩
def Zh{ops:Array Oper}{rest:List Oper}{o:Oper}{a:Act}{t:Exit->Act->World->Prop}{w W1 W2:Wl}(O:o.guard=none)(s x:Operand)(P:o.op=.call { callee:=.builtin .append,args:=#[s,x],argTypes:=#[67,67] })
  {v y:Vl} {D e:List OpD} (R:a.eval s=v) (T:a.eval x=y) (I:zQ (zF w W1) W1 v D) (E:Kf w W1) (J:zQ (zF W1 W2) W2 y e) (p:Kf W1 W2) (U:D.length+e.length<=16777216) (V:0<e.length)
  (h:∀u c' r g,Hid (r=(D++e).length)->Hid (zQ (zF w g) g (Sl u r c') (D++e))->Hid (Kf w g)->wpList prog ops t rest (a.put o.dst (Sl u r c')) g):wpList prog ops t (o::rest) a W2:=by
 obtain⟨L,l,i,A⟩:=I;obtain⟨L2,l2,j,B⟩:=J;have G:l.length=D.length:=by rw[<-A,Bl]
 have H:l2.length=e.length:=by rw[<-B,Bl]
 obtain⟨ya,yc,rfl⟩:=uj j.k;refine jM O s x 67 67 P R T Re (Q:=λb=>zF w W1 b/\L b=0) (n:=l.length) (cs:=ve l) (m:=l2.length) (news:=ve l2) (i.k.on (λb i=>p.d b i.1.2 (λq=>q))) (Wm underlying67 j.k (PM _)) oM ?_;intro v3 g C z S;obtain⟨F,c3,rfl⟩:=uj C;have N:=Gp.f i E.l p j.m C z S oM;exact h F c3 _ g (by show _=_;rw[zJ,G,H]) ⟨_,_,N,by rw[Dt,A,B]⟩ (yQ (E.c p) z (λb q=>q.1.1))
def FQ{ops:Array Oper}{rest:List Oper}{o:Oper}{a:Act}{p:Exit->Act->World->Prop}{w W1 W2:Wl}(B:o.guard=none)(s x:Operand)(E:o.op=.call { callee:=.builtin .append,args:=#[s,x],argTypes:=#[67,67] })
  {v:Vl} {D:List OpD} {k z:Int} {ty:TypeId} (G:a.eval s=v) (I:a.eval x=Sl (Sm W2.heap.size 0) 1 1) (u:zQ (zF w W1) W1 v D) (J:Kf w W1) (N:Kf W1 W2) (P:D.length+1<=16777216)
  (h:∀g c' j f,Hid (j=(D++[Cq k z]).length)->Hid (zQ (zF w f) f (Sl g j c') (D++[Cq k z]))->Hid (Kf w f)->wpList prog ops p rest (a.put o.dst (Sl g j c')) f):wpList prog ops p (o::rest) a (W2.alloc (Oc #[Iv k,nS,Iv z] ty)):=by
 obtain⟨L,l,i,r⟩:=u;have O:l.length=D.length:=by rw[<-r,Bl]
 have t:Kf W1 (W2.alloc (Oc #[Iv k,nS,Iv z] ty)):=N.c zY;refine jM B s x 67 67 E G I Re (Q:=λb=>zF w W1 b/\L b=0) (n:=l.length) (cs:=ve l) (m:=1) (news:=ve [⟨Cq k z,none,0⟩]) (i.k.on (λb i=>t.d b i.1.2 (λq=>q))) (DL (Eo W2 _)) oM ?_;intro v3 f F C H;let⟨g,c',e,y,A⟩:=DN k z i J t r rfl F C H;injection e with e;subst e;exact h g c' _ f rfl y A
def Gq(f:Nat)(Q:Np)(ra la:Oa)(rc lc nr b:Nat)(l:List zI)(D:List OpD)(w:Wl):Prop :=
 ∀a c w',Kf w w'->Bh Q w' a l->l.length<=c->Cs f #[Sl a l.length c,Sl ra nr rc,Sl la b lc] w' (Mk D w')
def Hf(D:List OpD):Prop:=D.length<=1000000/\∀x∈D,x.sl<=1048576
def Hf.c{D}(h:Hf D):xx D.length (df D):=by
 refine⟨zP h.1 oM,λi a=>?_⟩;unfold df;rw[El,Bb a];exact h.2 _ (Gi a)
def Bh.a{Q:Np}{w}{b off:Nat}{l:List zI}(h:∀i x,l[i]?=some x->Hc Q w b (off+i*4) x)(k n:Nat):Bh Q w (Sm b (off+k*4)) ((l.drop k).take n):=by
 refine .inr ⟨b,off+k*4,rfl,λi x c=>?_⟩;have d:(l.drop k)[i]?=some x:=by
  by_cases e:i<n
  .rwa [List.getElem?_take_of_lt e]at c
  rw[List.getElem?_take_eq_none oM]at c;cases c
 rw[List.getElem?_drop]at d;have:=h (k+i) x d;rwa [show off+k*4+i*4=off+(k+i)*4 by omega]
def Z6 Q ra la rc lc nr r t l D E w(k:t.e=33/\E=Bq 7 D\/t.e=38/\E=Bq 7 (Bq 7 D)/\Hf (Bq 7 D))(P:l.length+1<=1048576)(R:0<l.length)(m:Hf D)(H:Gq 134 Q ra la rc lc nr r l D w):Gq 134 Q ra la rc lc nr r (t::l) E w:=by
 intro a c w' J G I;rw[Db]at I;rw[Db];obtain⟨b,off,rfl,p⟩:=G.at (i:=0) sM;have q:=(p 0 t rfl).e;simp only[Gf,Dy]at q;have F:Bh Q w' (Sm b (off+1*4)) l:=by
  have:=Bh.a p 1 l.length;rwa [List.drop_succ_cons,Mc,Pa]at this
 have s:=ua (H _ (c-1) w' J F oM);have o:Hid (∀D W d f,Hf D->zQ (zF w' W) W (Sl d D.length f) D->Kf w' W->Cs 120 #[Iv 7,Sl d D.length f] W (Mk (Bq 7 D) w')):=λD W d f m g j=>(Ym 7 d f D W g.e m.c).mono (λe W' h=>h.a j);have N:¬c=1:=oM;have O:¬c-1=0:=oM;rcases k with⟨k,rfl⟩|⟨k,rfl,B⟩;all_goals
  rw[k]at q;go_enter func134,ntmps134;go_wp2_with fail;refine s.mono ?_;rintro e W ⟨d,f,rfl,g,j⟩;have u:=ua (o D W d f m g j);go_wp2_with fail;refine u.mono ?_
 rotate_left
 rintro e W' ⟨x,y,rfl,g,j⟩;have v:=ua (o (Bq 7 D) W' x y B g j);go_wp2_with fail;refine v.mono ?_;all_goals
  intro e W2 C;have n:=ua C;obtain⟨L,c3,rfl,z,A⟩:=n.o;clear z A;go_wp2;go_ret;exact n.o
def Z7 Q ra la rc lc nr I t l D E w(n:t.e=42/\E=Bq 6 D\/t.e=63/\E=uM 5 D (uv 0 0))(Z:l.length+1<=1048576)(F:0<l.length)(y:kAt l 0≠33)(z:kAt l 0≠38)(B:Hf D)(H:Gq 134 Q ra la rc lc nr I l D w):Gq 134 Q ra la rc lc nr I (l++[t]) E w:=by
 intro a c w' U P R;rw[zJ,Dd]at R;rw[zJ,Dd];obtain⟨b,off,rfl,v⟩:=P.at (i:=0) sM;obtain⟨x,G⟩:∃x,l[0]?=some x:=⟨_,Bb F⟩;have S:=(v 0 x (by rw[Es F];exact G)).e;have T:=(v l.length t sM).e;simp only[Gf,Dy]at S;rw[Ww G]at y z;have X:(x.e==33)=false:=by simpa using y
 have Y:(x.e==38)=false:=by simpa using z
 have O:Bh Q w' (Sm b off) l:=by
  have:=Bh.a v 0 l.length;rwa [Mc,List.take_left,Gf,Dy]at this
 have L:=ua (H _ c w' U O oM);have v1:((l.length+1:Nat):Int)-1=(l.length:Int):=oM;rcases n with⟨n,rfl⟩|⟨n,rfl⟩;all_goals
  rw[n]at T;go_enter func134,ntmps134;go_wp2_with fail;refine L.mono ?_;rintro e W ⟨k,m,rfl,d,f⟩
 .have j:Hid (Cs 120 #[Iv 6,Sl k D.length m] W (Mk (Bq 6 D) w')):=(Ym 6 k m D W d.e B.c).mono (λe W' h=>h.a f);clear d f;go_wp2_with fail;refine j.mono ?_;intro e W' u;have g:Hid (Mk (Bq 6 D) w' e W'):=u;obtain⟨o,p,rfl,q,r⟩:=g.o;clear q r;go_wp2;go_ret;exact g.o
 have J:=ua d;have N:=ua f;clear d f;go_wp2_with fail;refine(vU 0 0 W).mono ?_;rintro e W2 ⟨o,p,rfl,A,s⟩;have j:Hid (Cs 51 #[Iv 5,Sl k D.length m,Sl o (uv 0 0).length p] W2 (Mk (uM 5 D (uv 0 0)) w')):=by
  have d:=J.o;have f:=N.o;exact(jR 5 k o m p D (uv 0 0) W2 (d.h s).e B.c A.e ⟨by simp[uv],λi C=>by simp[uv]at C;subst C;simp[df,uv,Cq]⟩ (by simp[uv])).mono (λe W' h=>h.a (f.c s))
 generalize (uv 0 0).length=ll at j ⊢;clear A s;go_wp2_with fail;refine j.mono ?_;intro e W' u;have g:Hid (Mk (uM 5 D (uv 0 0)) w' e W'):=u;obtain⟨V,c3,rfl,q,r⟩:=g.o;clear q r;go_wp2;go_ret;exact g.o
def Z4 Q ra la rc lc nr h o cl l D w(s:o.e=40)(t:cl.e=41)(C:l.length+2<=1048576)(H:Gq 74 Q ra la rc lc nr h l D w):Gq 134 Q ra la rc lc nr h (o::(l++[cl])) D w:=by
 intro a c w' x q r;have u:(o::(l++[cl])).length=l.length+2:=sM;rw[u]at r ⊢;obtain⟨b,off,rfl,d⟩:=q.at (i:=0) sM;have g:=(d 0 o rfl).e;have v:=(d (l.length+1) cl sM).e;simp only[Gf,Dy]at g;rw[s]at g;rw[t]at v;have p:Bh Q w' (Sm b (off+1*4)) l:=by
  have:=Bh.a d 1 l.length;rwa [List.drop_succ_cons,Mc,List.take_left]at this
 have j:=ua (H _ (c-1) w' x p oM);have E:((l.length+2:Nat):Int)-1=((l.length+1:Nat):Int):=oM;have A:¬c=1:=oM;have B:¬c-1=0:=oM;go_enter func134,ntmps134;go_wp2_with fail;refine j.mono ?_;intro e W' n;have f:Hid (Mk D w' e W'):=n;obtain⟨y,z,rfl,k,m⟩:=f.o;clear k m;go_wp2;go_ret;exact f.o
def qG:∀(r:LI) (D:List OpD),(r.foldl (λa y=>a++uL (vB y)++[Cq 4 0]) D).length=D.length+2*r.length
 |[],D=>by simp
 |y::r,D=>by
  rw[List.foldl_cons,qG r];simp[uL];omega
def QM x w:∃W,(∀(P:Ew),(∀e w',e=Rt (Sl (Sm w.heap.size 0) 2 2)->w'=W->P e w')->Cs 53 #[Iv x] w P)/\Cs 52 #[Sl (Sm w.heap.size 0) 2 2] W (Mk (uL (vB x)) w):=by
 refine⟨w.alloc (Oc #[Iv x,Iv x] 3),λP c=>(uP x w).mono (λe w' h=>c e w' h.1 h.2),?_⟩;refine(jQ (λ_=>True) (Sm w.heap.size 0) 2 (vB x) _ (.inr ⟨w.heap.size,0,rfl,trivial,λi d=>?_⟩) (by simp[vB])).mono (λe w' h=>h.a zY);have b:=xC w (Oc #[Iv x,Iv x] 3) _ rfl;match i,d with
 |0,_=>exact uN b rfl
 |1,_=>exact uN b rfl
def Z5 Q ra la rc lc nr nl t w(G:t.e=34)(hz:t.nm.length<=400000)(Y:zW t.nm):Gq 134 Q ra la rc lc nr nl [t] (yE t.nm) w:=by
 intro a c w' kw X hc;show Cs 134 #[Sl a 1 c,_,_] w' _;obtain⟨b,off,rfl,aa⟩:=X.at (i:=0) sM;have E:=aa 0 t rfl;have k0:=E.e;let⟨na,nc,k2,U⟩:=E.nm;simp only[Gf,Dy]at k0 k2;rw[G]at k0;have HI:Hid (Ints Q .u8 w' na t.nm.length (lf t.nm)):=U;clear E aa X U kw G;generalize t.nm=z at *;cases z with
 |nil =>
  go_enter func134,ntmps134;go_wp2_with fail;refine(vU 0 0 w').mono ?_;intro e W' W;have L:Hid (Mk (uv 0 0) w' e W'):=W;clear W;obtain⟨P,R,rfl,h2,h3⟩:=L.o;clear h2 h3;go_wp2;go_ret;exact L.o
 |cons x r =>
  have aq:=Y x sM;rcases HI.o with q|⟨sb,so,rfl,_,Z⟩
  .simp at q
  have s0:=Z 0 sM;rw[Dy,show lf (x::r) 0=x from rfl]at s0;have ad:Hid (∀i y,r[i]?=some y->w'.cell? (Ad sb (so+(i+1)))=some (Bv y)/\0<=y/\y<=255):=λi y d=>by
   have au:=(Bz.1 d).1;refine⟨?_,Y y (Ta _ (Cn d))⟩;rw[Z (i+1) sO];simp[lf,d]
  rw[Db]at *;have hn:=hz;let⟨W1,v,A⟩:=QM x w';have m:=ua v;have n:=ua A;have v0:¬((r.length+1:Nat):Int)=0:=oM;have ao:∀k,(((r.take k).foldl (λj y=>j++uL (vB y)++[Cq 4 0]) (uL (vB x)))).length<=1+2*r.length:=λk=>by
   rw[qG,Fw];simp[uL];omega
  have ag:=ua ao;go_enter func134,ntmps134;go_wp2_with fail;refine m _ ?_;rintro e w1 rfl rfl;go_wp2_with fail;refine n.mono ?_;rintro e W2 ⟨o,p,rfl,s,u⟩;have f:=ua s;have g:=ua u;generalize h:(uL (vB x)).length=m0 at f ⊢;go_wp2_with fail;go_loopw [11,12] (λap H wr=>∃(k:Nat) (D:List OpD) (B:Nat) (o:Oa) (p:Nat),k<=r.length/\H=Iv ((k+1:Nat):Int)/\ap=Sl o B p/\B=D.length/\D=(r.take k).foldl (λj y=>j++uL (vB y)++[Cq 4 0]) (uL (vB x))/\zQ (zF w' wr) wr (Sl o B p) D/\Kf w' wr) (λ_ H _=>r.length+2-(intOf H).toNat)
  .exact⟨0,uL (vB x),m0,o,p,oM,rfl,rfl,h.symm,rfl,f,g⟩
  obtain⟨k,D,B,ah,ai,G,rfl,rfl,ac,F,s,u⟩:=hrel;clear f g h;have f:=ua s;have g:=ua u;have C:=ua F;have N:=ua ac;have J:Hid (D.length<=1+2*r.length):=F▸ag k;clear s u F ac;by_cases ab:k<r.length
  .have hlt':((k+1:Nat):Int)<((r.length+1:Nat):Int):=oM;obtain⟨y,d⟩:∃y,r[k]?=some y:=⟨_,Bb ab⟩;let⟨s1,y0,y1⟩:=ad k y d;have s2:=ue s1 g.q;have ae:Hid (D++uL (vB y)++[Cq 4 0]=(r.take (k+1)).foldl (λj y=>j++uL (vB y)++[Cq 4 0]) (uL (vB x))):=by
    rw[Jl,d,Option.toList_some,List.foldl_append,<-C.o];rfl
   let⟨W3,v,A⟩:=QM y wr;have m:=ua v;have n:Hid (Cs 52 #[Sl (Sm wr.heap.size 0) 2 2] W3 (Mk (uL (vB y)) wr)):=A;clear v A s1 d C;go_wp2_with fail;refine m.o _ ?_;rintro e w1 rfl rfl;go_wp2_with fail;refine n.o.mono ?_;rintro e W4 ⟨P,R,rfl,T,V⟩;have I:Hid (zQ (zF wr W4) W4 (Sl P (uL (vB y)).length R) (uL (vB y))):=T;have af:Hid (Kf wr W4):=V;clear T V m n;have l:Hid ((uL (vB y)).length=1):=rfl;generalize h:(uL (vB y)).length=m2 at I l ⊢;go_wp2_with (first|(at_builtin;refine Zh rfl _ _ rfl rfl rfl f.o g.o I.o af.o (by have:=J.o;rw[h,l.o];omega) (by rw[h,l.o];omega) ?_;intro a3 c3 n3 O av aj al)|(at_builtin;refine FQ (W1:=O) (W2:=O) rfl _ _ rfl rfl rfl aj.o al.o Cc (by have:=J.o;have:=l.o;rw[zJ];omega) ?_;intro a4 c4 n4 W6 an ak am));go_roundw
   .exact⟨k+1,D++uL (vB y)++[Cq 4 0],n4,a4,c4,ab,by go_num,rfl,an.o,ae.o,ak.o,am.o⟩
   simp[intOf];omega
  have hlt':¬((k+1:Nat):Int)<((r.length+1:Nat):Int):=oM;go_wp2;go_ret;have e:D=yE (x::r):=by rw[C.o,Kg oM];rfl
  have S:=f;rw[N.o,e]at S;exact⟨ah,ai,by rw[N.o,e];rfl,S,g⟩
def QJ{l:List zI}{i:Nat}{x:zI}(h:l[i]?=some x)(d a:Int):kz i d a (l.drop i)=kz (i+1) (xO x.e d) (if x.e=47/\d=0 then i else a) (l.drop (i+1)):=by rw[yd h,kK]
def Y5 Q ra la rc lc nr m t f l2 n l w(hl:f.length+(l2.length+1)<=1048576)(N:kz 0 0 (-1) (f++t::l2)=(f.length:Int))(ak:0<l.length)(hD:n.length+l.length+1<=16777216)(S:Gq 74 Q ra la rc lc nr m f n w)(T:Gq 74 Q ra la rc lc nr m l2 l w):Gq 74 Q ra la rc lc nr m (f++t::l2) (uM 5 n l) w:=by
 intro a c w' R hT hc;have u:(f++t::l2).length=f.length+(l2.length+1):=sM;rw[u]at hc ⊢;obtain⟨b,off,rfl,z⟩:=hT.at (i:=0) (by rw[u];omega);have Y:Hid (∀i,i<f.length+(l2.length+1)->∃x,(f++t::l2)[i]?=some x/\w'.cell? (Ad b (off+i*4))=some (Bv x.e)):=λi A=>⟨_,Bb (by rw[u];exact A),(z i _ (Bb (by rw[u];exact A))).e⟩;have ab:Hid (Cs 74 #[Sl (Sm b off) f.length c,Sl ra nr rc,Sl la m lc] w' (Mk n w')):=by
  refine S _ c w' R ?_ oM;have:=Bh.a z 0 f.length;rwa [Mc,List.take_left,Gf,Dy]at this
 have ac:Hid (∀W g c',Kf w' W->(g=some (Ad b (off+(f.length+1)*4))\/l2 = [])->l2.length<=c'->Cs 74 #[Sl g l2.length c',Sl ra nr rc,Sl la m lc] W (Mk l W)):=λW g c' O ha ag=>by
  refine T g c' W (R.c O) ?_ ag;rcases ha with rfl|h
  .have:=Bh.a z (f.length+1) l2.length;rw[show(f++t::l2).drop (f.length+1)=l2 by rw[<-List.drop_drop,List.drop_left];rfl,Pa]at this;exact this.h O.q
  exact .inl h
 obtain⟨B,G⟩:∃B:Int,B=(f.length:Int):=⟨_,rfl⟩;rw[<-G]at N;have X:=ua G;generalize hL:f++t::l2=L at *;go_enter func74,ntmps74;go_wp2;go_loopw [7,8,9] (λv7 v8 C wr=>∃(i:Nat) (d k:Int),i<=f.length+(l2.length+1)/\v7=Iv k/\v8=Iv d/\C=Iv i/\wr=w'/\-(i:Int)<=d/\d<=i/\kz i d k (L.drop i)=B) (λ_ _ C _=>f.length+(l2.length+1)-(intOf C).toNat)
 .exact⟨0,0,-1,oM,rfl,rfl,rfl,rfl,oM,oM,N⟩
 obtain⟨i,d,k,A,rfl,rfl,rfl,rfl,am,an,s⟩:=hrel;by_cases aj:i<f.length+(l2.length+1)
 .have hlt':(i:Int)<((f.length+(l2.length+1):Nat):Int):=oM;let⟨x,hx,v⟩:=Y i aj;rw[QJ hx]at s;have y:=ua s;by_cases o:x.e=40
  .have e:=y;rw[o,kB,Zn oM]at e;rw[o]at v;have j:=ua e;go_wp2;go_roundw
   .exact⟨i+1,d+1,k,oM,rfl,by go_num,by go_num,by trivial,oM,oM,j⟩
   simp[intOf];omega
  have y1:(x.e==40)=false:=by simpa using o
  by_cases p:x.e=41
  .have e:=y;rw[p,ju,Zn oM]at e;rw[p]at v;have j:=ua e;go_wp2;go_roundw
   .exact⟨i+1,d-1,k,oM,rfl,by go_num,by go_num,by trivial,oM,oM,j⟩
   simp[intOf];omega
  have y2:(x.e==41)=false:=by simpa using p
  have e:=y;rw[uX o p]at e;by_cases r:x.e=47/\d=0
  .rw[Zp r]at e;obtain⟨q1,rfl⟩:=r;rw[q1]at v;have j:=ua e;go_wp2;go_roundw
   .exact⟨i+1,0,i,oM,rfl,rfl,by go_num,by trivial,oM,oM,j⟩
   simp[intOf];omega
  rw[Zn r]at e;have j:=ua e;by_cases h:x.e=47
  .have al:(d==0)=false:=by simpa using λq=>r ⟨h,q⟩
   rw[h]at v;go_wp2;go_roundw
   .exact⟨i+1,d,k,oM,rfl,rfl,by go_num,by trivial,oM,oM,j⟩
   simp[intOf];omega
  have y3:(x.e==47)=false:=by simpa using h
  go_wp2;go_roundw
  .exact⟨i+1,d,k,oM,rfl,rfl,by go_num,by trivial,oM,oM,j⟩
  simp[intOf];omega
 have hlt':¬(i:Int)<((f.length+(l2.length+1):Nat):Int):=oM;have e:k=B:=by
  rw[Ki (by rw[<-hL];simp;omega),kz]at s;exact s
 rw[X.o]at e;subst e;go_wp2_with fail;refine ab.mono ?_;rintro e W1 ⟨a1,c1,rfl,ad,I⟩;have U:=ua ad;have Z:=ua I;have D:Hid (∀g c',(g=some (Ad b (off+(f.length+1)*4))\/l2 = [])->l2.length<=c'->Cs 74 #[Sl g l2.length c',Sl ra nr rc,Sl la m lc] W1 (Mk l W1)):=λg c'=>ac W1 g c' I;have hq:f.length+(l2.length+1)-(f.length+1)=l2.length:=oM;go_wp2_with fail;all_goals (
  refine Calls.mono (D _ _ (by first|exact .inl rfl|exact .inr (Ic oM)) oM) ?_;rintro e W2 ⟨a2,c2,rfl,H,J⟩;have V:=ua H;have aa:=ua J;clear H J D;go_wp2_with (first|(at_builtin;refine Zh rfl _ _ rfl rfl rfl U.o Z.o V.o aa.o oM ak ?_;intro a3 c3 n3 E ao ae ah)|(at_builtin;refine FQ (W1:=E) (W2:=E) rfl _ _ rfl rfl rfl ae.o ah.o Cc (by rw[zJ];omega) ?_;intro a4 c4 n4 W6 P af ai));go_ret;have F:=af;rw[P.o]at F;exact⟨a4,c4,by rw[P.o];rfl,F,ai⟩)
def Jc:List OpD->List (List zI×List OpD)->List OpD
 |D,[]=>D
 |D,p::r=>Jc (D++p.2++[Cq 4 0]) r
def FR:∀(r:List (List zI×List OpD)) (D:List OpD),D.length<=(Jc D r).length
 |[],D=>zD
 |p::r,D=>by
  have:=FR r (D++p.2++[Cq 4 0]);rw[zJ,zJ]at this;rw[Jc];omega
def yh(ps:List (List zI×List OpD)):List zI:=ps.flatMap (·.1)
def Oj(P:List zI->List OpD->Prop):List (List zI×List OpD)->Prop
 |[]=>True
 |p::r=>(jZ (p.1++yh r)=p.1.length/\qI (p.1++yh r)/\0<p.1.length/\0<p.2.length/\P p.1 p.2)/\Oj P r
def Z3 Q ra la rc lc nr u(m:List zI×List OpD)ps D w(hD:Jc m.2 ps=D)(bd:D.length<=1000000)(ab:kz 0 0 (-1) (yh (m::ps)) = -1)(hl:(yh (m::ps)).length<=1048576)(hP:Oj (λl D=>Gq 134 Q ra la rc lc nr u l D w) (m::ps)):Gq 74 Q ra la rc lc nr u (yh (m::ps)) D w:=by
 intro a c w' kw hT hc;have a0:0<(yh (m::ps)).length:=by
  have:=hP.1.2.2.1;show 0<(m.1++yh ps).length;rw[zJ];omega
 obtain⟨b,off,rfl,N⟩:=hT.at (i:=0) a0;obtain⟨L,hL⟩:∃L,yh (m::ps)=L:=⟨_,rfl⟩;rw[hL]at hc ab hl a0 N ⊢;have V:Hid (∀i,i<L.length->∃x,L[i]?=some x/\w'.cell? (Ad b (off+i*4))=some (Bv x.e)):=λi hi=>⟨_,Bb hi,(N i _ (Bb hi)).e⟩;have HT:Hid (∀W k n,Kf w' W->Bh Q W (Sm b (off+k*4)) ((L.drop k).take n)):=λW k n hk=>(Bh.a N k n).h hk.q;have Y:Hid (Oj (λl D=>Gq 134 Q ra la rc lc nr u l D w') (m::ps)):=by
  have go:∀T,Oj (λl D=>Gq 134 Q ra la rc lc nr u l D w) T->Oj (λl D=>Gq 134 Q ra la rc lc nr u l D w') T:=λT=>by
   induction T with
   |nil=>exact λ_=>trivial
   |cons p r ih=>exact λh=>⟨⟨h.1.1,h.1.2.1,h.1.2.2.1,h.1.2.2.2.1,λa c W hk=>h.1.2.2.2.2 a c W (kw.c hk)⟩,ih h.2⟩
  exact go _ hP
 clear N hT hP kw;let⟨B,hB⟩:=nm (kz 0 0 (-1) L);have af:=ua (hB.symm.trans ab);clear ab;go_enter func74,ntmps74;go_wp2;go_loopw [7,8,9] (λv7 v8 v9 wr=>∃(i:Nat) (d t:Int),i<=L.length/\v7=Iv t/\v8=Iv d/\v9=Iv i/\wr=w'/\-(i:Int)<=d/\d<=i/\kz i d t (L.drop i)=B) (λ_ _ v9 _=>L.length-(intOf v9).toNat)
 .exact⟨0,0,-1,oM,rfl,rfl,rfl,rfl,oM,oM,hB⟩
 obtain⟨i,d,t,hi,rfl,rfl,rfl,bb,bg,bh,A⟩:=hrel;obtain rfl:=bb.symm;clear hB;by_cases a9:i<L.length
 .have hlt':(i:Int)<(L.length:Int):=oM;let⟨x,hx,P⟩:=V i a9;rw[QJ hx]at A;have v:=ua A;clear A hx V Y;by_cases I:x.e=40
  .have e:=v;rw[I,kB,Zn oM]at e;rw[I]at P;have s:=ua e;clear e v;go_wp2;go_roundw
   .exact⟨i+1,d+1,t,oM,rfl,by go_num,by go_num,by trivial,oM,oM,s⟩
   simp[intOf];omega
  have y1:(x.e==40)=false:=by simpa using I
  by_cases J:x.e=41
  .have e:=v;rw[J,ju,Zn oM]at e;rw[J]at P;have s:=ua e;clear e v y1;go_wp2;go_roundw
   .exact⟨i+1,d-1,t,oM,rfl,by go_num,by go_num,by trivial,oM,oM,s⟩
   simp[intOf];omega
  have y2:(x.e==41)=false:=by simpa using J
  have e:=v;rw[uX I J]at e;by_cases C:x.e=47/\d=0
  .rw[Zp C]at e;obtain⟨S,rfl⟩:=C;rw[S]at P;have s:=ua e;clear e v y1 y2;go_wp2;go_roundw
   .exact⟨i+1,0,i,oM,rfl,rfl,by go_num,by trivial,oM,oM,s⟩
   simp[intOf];omega
  rw[Zn C]at e;have s:=ua e;clear e v;by_cases h:x.e=47
  .have bf:(d==0)=false:=by simpa using λq=>C ⟨h,q⟩
   rw[h]at P;clear y1 y2 C h;go_wp2;go_roundw
   .exact⟨i+1,d,t,oM,rfl,rfl,by go_num,by trivial,oM,oM,s⟩
   simp[intOf];omega
  have y3:(x.e==47)=false:=by simpa using h
  go_wp2;go_roundw
  .exact⟨i+1,d,t,oM,rfl,rfl,by go_num,by trivial,oM,oM,s⟩
  simp[intOf];omega
 have hlt':¬(i:Int)<(L.length:Int):=oM;have e:t=B:=by
  rw[Ki oM,kz]at A;exact A
 rw[af.o]at e;subst e;clear A V af;have hz:¬(L.length:Int)=0:=oM;have a6:=ua hL;have ah:Hid (Jc m.2 ps=D):=hD;clear hL hD;go_wp2_with fail;go_loopw [12,13] (λbc ad W=>∃(i:Nat) (rest:List (List zI×List OpD)) (g:List OpD) (R:Nat) (F:Oa) (G:Nat),i<=L.length/\ad=Iv i/\bc=Sl F R G/\R=g.length/\L.drop i=yh rest/\((i=0/\g = []/\rest=m::ps)\/(0<i/\Jc g rest=D))/\Oj (λl D=>Gq 134 Q ra la rc lc nr u l D w') rest/\zQ (zF w' W) W (Sl F R G) g/\Kf w' W) (λ_ ad _=>L.length-(intOf ad).toNat)
 .exact⟨0,m::ps,[],0,none,0,oM,rfl,rfl,rfl,by rw[Mc,a6.o],.inl ⟨rfl,rfl,rfl⟩,Y,zQ.nil _ _,Cc⟩
 obtain⟨j,rest,g,R,F,G,hj,rfl,rfl,aw,O,a5,ay,am,ao⟩:=hrel;have HN:=ua aw;have U:=ua am;have y:=ua ao;have E:Hid ((j=0/\g = []/\rest=m::ps)\/(0<j/\Jc g rest=D)):=a5;clear aw am ao a5 Y;by_cases bj:j<L.length
 .have hjl':(j:Int)<(L.length:Int):=oM;cases rest with
  |nil =>
   have:(L.drop j).length=0:=(by rw[O];rfl);rw[Td]at this;omega
  |cons p r =>
   obtain⟨⟨S,q2,q3,q4,q5⟩,az⟩:=ay;have z:L.drop j=p.1++yh r:=O;have aq:(L.drop j).length=p.1.length+(yh r).length:=(by rw[z,zJ]);rw[Td]at aq;have au:L.drop (j+p.1.length)=yh r:=(by rw[<-List.drop_drop,z,List.drop_left]);have al:Hid (Cs 133 #[Sl (Sm b (off+j*4)) (L.length-j) (c-j)] wr λe w1=>e=Rt (Iv (p.1.length:Nat))/\w1=wr):=by
    have h:=uko Q (L.drop j) (Sm b (off+j*4)) (c-j) wr (by
     have:=HT wr j (L.drop j).length y;rwa [Pa]at this) (by rw[Td];omega) (by rw[z];exact q2)
    rw[Td,z,S]at h;exact h
   have ag:Hid (Cs 134 #[Sl (Sm b (off+j*4)) p.1.length (c-j),Sl ra nr rc,Sl la u lc] wr (Mk p.2 wr)):=by
    refine q5 _ (c-j) wr y ?_ oM;have:=HT wr j p.1.length y;rwa [z,List.take_left]at this
   have bk:j+p.1.length<=L.length:=oM;clear S q2 q5 O z aq;have be:¬c-j=0:=oM;have hcj':¬c=j:=oM;have hq:j+p.1.length-j=p.1.length:=oM;have bl:(j:Int)+(p.1.length:Int)<=(c:Int):=oM;have bm:(j:Int)<=(j:Int)+(p.1.length:Int):=oM;have ak:Hid (Oj (λl D=>Gq 134 Q ra la rc lc nr u l D w') r):=az;have ai:Hid (L.drop (j+p.1.length)=yh r):=au;have X:Hid (g.length+p.2.length+1<=16777216):=by
    show g.length+p.2.length+1<=16777216;rcases E.o with⟨_,o,f⟩|⟨_,f⟩
    .injection f with f H;subst f H o;have:=FR r p.2;rw[ah.o]at this;simp;omega
    rw[Jc]at f;have:=FR r (g++p.2++[Cq 4 0]);rw[f,zJ,zJ,Dd]at this;omega
   clear az au;go_wp2_with fail;refine al.mono ?_;rintro e W ⟨rfl,hw⟩;subst W;go_wp2_with fail;refine ag.o.mono ?_;rintro e W4 ⟨a2,c2,rfl,an,ap⟩;have ae:Hid (zQ (zF wr W4) W4 (Sl a2 p.2.length c2) p.2):=an;have aj:Hid (Kf wr W4):=ap;clear an ap al ag;by_cases av:j=0
   .subst av;go_wp2_with (at_builtin;refine Zh rfl _ _ rfl rfl rfl U.o y.o ae.o aj.o (oH X.o) q4 ?_;intro a3 c3 n3 Z ax aa ac);go_roundw
    .rcases E.o with⟨_,o,f⟩|⟨o,_⟩
     .injection f with f H;refine⟨p.1.length,r,g++p.2,n3,a3,c3,oM,sM,rfl,ax.o,by have:=ai.o;rwa [Bp]at this,.inr ⟨q3,?_⟩,ak.o,aa.o,ac.o⟩;rw[o,f,H,Hm];exact ah.o
     omega
    simp[intOf];omega
   have bi:(0:Int)<(j:Int):=oM;go_wp2_with (first|(at_builtin;refine Zh rfl _ _ rfl rfl rfl U.o y.o ae.o aj.o (oH X.o) q4 ?_;intro a3 c3 n3 Z ax aa ac)|(at_builtin;refine FQ (W1:=Z) (W2:=Z) rfl _ _ rfl rfl rfl aa.o ac.o Cc (by have:=X.o;rw[zJ];omega) ?_;intro a4 c4 n4 W6 ba a7 a8));go_roundw
   .rcases E.o with⟨o,_⟩|⟨_,f⟩
    .exact aB o av
    exact⟨j+p.1.length,r,g++p.2++[Cq 4 0],n4,a4,c4,oM,sM,rfl,ba.o,ai.o,.inr ⟨oM,by rw[Jc]at f;exact f⟩,ak.o,a7.o,a8.o⟩
   simp[intOf];omega
 have hjl':¬(j:Int)<(L.length:Int):=oM;cases rest with
 |cons p r =>
  have H:=ay.1.2.2.1;have:(L.drop j).length=(p.1++yh r).length:=by rw[O];rfl
  rw[Td,zJ]at this;omega
 |nil =>
  have e:g=D:=by
   rcases E.o with⟨o,_,f⟩|⟨_,f⟩
   .omega
   exact f
  go_wp2;go_ret;have o:=U;rw[HN.o,e]at o;exact⟨F,G,by rw[HN.o,e];rfl,o,y⟩
def Y6 Q ra la rc lc nr h w:Gq 74 Q ra la rc lc nr h [] (uv 0 0) w:=by
 intro a c w' n l m;show Cs 74 #[Sl a 0 c,_,_] w' _;go_enter func74,ntmps74;go_wp2;go_loopw [7,8,9] (λv7 v8 i wr=>v7=Iv (-1)/\v8=Iv 0/\i=Iv 0/\w'=wr) (λ_ _ _ _=>0)
 .exact⟨rfl,rfl,rfl,rfl⟩
 obtain⟨rfl,rfl,rfl,rfl⟩:=hrel;go_wp2_with fail;refine(vU 0 0 _).mono ?_;intro e W g;have b:Hid (Mk (uv 0 0) w' e W):=g;obtain⟨j,k,rfl,d,f⟩:=b.o;clear d f;go_wp2;go_ret;exact b.o
def QK(t:zI):Prop:=zW t.nm/\t.nm.length<=400000/\t.set.length<=1048576
def QL:∀(ps:List (List zI×List OpD)) (D:List OpD) (q:List zI×List OpD),Jc D (ps++[q])=Jc D ps++q.2++[Cq 4 0]
 |[],D,q=>rfl
 |p::r,D,q=>by rw[Fc,Jc,Jc,QL r]
def Y7 a b:yh (a++b)=yh a++yh b:=by simp[yh]
def Zi rs ls:∀e:PE,0<(e.e rs ls).length:=by
 intro e;cases e with
 |str t =>
  show 0<(yE t.nm).length;cases t.nm with
  |nil=>simp[yE,uv]
  |cons x r=>rw[yE,qG];simp[uL];omega
 |grp o e c=>exact Zi rs ls e
 |_=>simp[PE.e,uv,uL,Bq,uM]<;>omega
def Hf.a{D b}(h:Hf D)(c:b.length<=D.length)(d:∀x∈b,x∈D):Hf b:=⟨zP c h.1,λx e=>h.2 x (d x e)⟩
def Pz(f:Nat)(Q:Np)(ra la:Oa)(rc lc:Nat)(rs ls:List LI)(w:Wl)(e:PE):Prop:=Gq f Q ra la rc lc rs.length ls.length e.tk (e.e rs ls) w
def Wq(Q:Np)(ra la:Oa)(rc lc:Nat)(rs ls:List LI)(w:Wl)(e:PE):Prop:=∃b ps,yh (b::ps)=e.tk/\Jc b.2 ps=e.e rs ls/\∀a,Oj (λl D=>Gq 134 Q ra la rc lc rs.length ls.length l D w) a->kAt (yh a) 0≠42->kAt (yh a) 0≠63->Oj (λl D=>Gq 134 Q ra la rc lc rs.length ls.length l D w) (b::ps++a)
def Y8 Q ra la rc lc rs ls w(N:Rp Q w ra la rs ls):∀e:PE,(∀t∈e.tk,QK t)->e.tk.length<=1048000->Hf (e.e rs ls) ->
  (e.ok 2->Pz 134 Q ra la rc lc rs ls w e)/\(e.ok 5->Pz 74 Q ra la rc lc rs ls w e)/\(e.ok 3->Wq Q ra la rc lc rs ls w e):=by
 have I:∀e:PE,e.tk.length<=1048000->Hf (e.e rs ls)->e.ok 4->Wq Q ra la rc lc rs ls w e->Pz 74 Q ra la rc lc rs ls w e:=λe f d T ⟨G,ps,C,D,E⟩=>by
  have u:=E [] trivial (by show(0:Int)≠42;omega) (by show(0:Int)≠63;omega);rw[Dl]at u;have i:=upo e T;unfold Pz;rw[<-C]at i f ⊢;exact Z3 Q ra la rc lc rs.length ls.length G ps _ w D d.1 i oM u
 have one:∀e:PE,e.ok 2->Pz 134 Q ra la rc lc rs ls w e->Wq Q ra la rc lc rs ls w e:=λe k i =>
  ⟨(e.tk,e.e rs ls),[],by simp[yh],rfl,λH v F S=>⟨⟨SU e k _ F S,RP e k _,(yK e k []).2.2,Zi rs ls e,i⟩,v⟩⟩
 have part:∀e:PE,e.tk.length<=1048000->Hf (e.e rs ls)->(∀l,e.ok l->e.ok 2)->(e.ok 2->Pz 134 Q ra la rc lc rs ls w e)->(e.ok 2->Pz 134 Q ra la rc lc rs ls w e)/\(e.ok 5->Pz 74 Q ra la rc lc rs ls w e)/\(e.ok 3->Wq Q ra la rc lc rs ls w e):=λe f d y i =>
  ⟨i,λh=>I e f d (PE.c e oM (y 5 h)) (one e (y 5 h) (i (y 5 h))),λh=>one e (y 3 h) (i (y 3 h))⟩
 intro e;induction e with
 |ref t=>exact λg f d=>part _ f d (λl h=>h) (λh a c w' z n p=>Y9 Q t a ra la c rc lc rs ls w' n (N.h z.q) h (g t (by simp[PE.tk])).1 p)
 |thr c t=>exact λg f d=>part _ f d (λl h=>h) (λh a R w' z n p=>Z2 Q c t a ra la R rc lc rs ls w' n (N.h z.q) h.1 h.2 (g t (by simp[PE.tk])).1 p)
 |str t=>exact λg f d=>part _ f d (λl h=>h) (λh=>Z5 Q ra la rc lc rs.length ls.length t w h (g t (by simp[PE.tk])).2.1 (g t (by simp[PE.tk])).1)
 |cls t=>exact λg f d=>part _ f d (λl h=>h) (λh a c w' z n p=>Z1 Q t a ra la c rc lc rs.length ls.length w' n h (g t (by simp[PE.tk])).2.2 p)
 |dot t=>exact λg f d=>part _ f d (λl h=>h) (λh a c w' z n p=>Z0 Q t a ra la c rc lc rs.length ls.length w' n h p)
 |emp=>exact λ_ _ _=>⟨λh=>absurd h (by show ¬(4<=2);omega),λ_=>Y6 Q ra la rc lc rs.length ls.length w,λh=>absurd h (by show ¬(4<=3);omega)⟩
 |grp o e c s =>
  intro g f d;have W:(PE.grp o e c).tk.length=e.tk.length+2:=by simp[PE.tk]
  exact part _ f d (λl h=>h) (λh=>Z4 Q ra la rc lc rs.length ls.length o c e.tk _ w h.1 h.2.1 oM ((s (λt q=>g t (by simp[PE.tk,q])) oM d).2.1 h.2.2))
 |star e t s|opt e t s =>
  intro g f d;rw[PE.tk,zJ,Dd]at f;have hD':Hf (e.e rs ls):=d.a (by simp[PE.e,Bq,uM]) (λx j=>by simp[PE.e,Bq,uM,j]);refine part _ (by simp[PE.tk];omega) d (λl h=>⟨oM,h.2⟩) (λh=>?_);have k:e.ok 2:=PE.c e oM h.2.2;have:=(s (λt q=>g t (by simp[PE.tk,q])) oM hD').1 k;have u:=(AD e h.2.2 []).1;have m:=(yK e k []).2.2;rw[Dl]at u;have O:¬(kAt e.tk 0=33\/kAt e.tk 0=38):=λq=>by
   cases v:e.tk with
   |nil=>rw[v]at m;simp at m
   |cons x r =>
    rw[v]at u q;rw[xt,Zp (show x.e=33\/x.e=38 from q)]at u;omega
  exact Z7 Q ra la rc lc rs.length ls.length t e.tk _ _ w (by first|exact .inl ⟨h.2.1,rfl⟩|exact .inr ⟨h.2.1,rfl⟩) oM m (λq=>O (.inl q)) (λq=>O (.inr q)) hD' this
 |not t e s|amp t e s =>
  intro g f d;rw[PE.tk,Db]at f;have hD':Hf (e.e rs ls):=d.a (by simp[PE.e,Bq]) (λx j=>by simp[PE.e,Bq,j]);refine part _ (by simp[PE.tk];omega) d (λl h=>⟨oM,h.2⟩) (λh=>?_);have:=(s (λt q=>g t (by simp[PE.tk,q])) oM hD').1 h.2.2;have m:=(yK e h.2.2 []).2.2;exact Z6 Q ra la rc lc rs.length ls.length t e.tk _ _ w (by first|exact .inl ⟨h.2.1,rfl⟩|exact .inr ⟨h.2.1,rfl,d.a (by simp[PE.e,Bq]) (λx j=>by simp[PE.e,Bq]at j ⊢;rcases j with h|h<;>simp[h])⟩) oM m hD' this
 |seq a b iha ihb|alt a t b iha ihb =>
  intro g f d;have J:Hf (a.e rs ls):=d.a (by simp[PE.e,uM]) (λx j=>by simp[PE.e,uM,j]);have L:Hf (b.e rs ls):=d.a (by simp[PE.e,uM];omega) (λx j=>by simp[PE.e,uM,j]);have V:=f;simp[PE.tk]at V;have A:=iha (λt q=>g t (by simp[PE.tk,q])) oM J;have B:=ihb (λt q=>g t (by simp[PE.tk,q])) oM L;first
  |have j:=J.1
   have X:=L.1;exact⟨λh=>aB h.1 oM,λh=>Y5 Q ra la rc lc rs.length ls.length t a.tk b.tk _ _ w oM (usi a t b h) (Zi rs ls b) oM (A.2.1 h.2.2.1) (B.2.1 (PE.c b oM h.2.2.2)),λh=>aB h.1 oM⟩
  |have P:a.ok 3->b.ok 2->Wq Q ra la rc lc rs ls w (PE.seq a b):=λU i=>by
    let⟨G,ps,C,D,E⟩:=A.2.2 U;refine⟨G,ps++[(b.tk,b.e rs ls)],?_,?_,λH v F k=>?_⟩
    .rw[<-Fc,Y7,C];simp[yh,PE.tk]
    .rw[QL,D];rfl
    have m:=yK b i (yh H);have:=E ((b.tk,b.e rs ls)::H) ⟨⟨SU b i _ F k,RP b i _,(yK b i []).2.2,Zi rs ls b,B.1 i⟩,v⟩ m.1 m.2.1;rw[<-Fc,Ce];exact this
   exact⟨λh=>aB h.1 oM,λh=>I _ f d ⟨oM,h.2⟩ (P h.2.1 h.2.2),λh=>P h.2.1 h.2.2⟩
structure NL where
 nm:List Int
 j:Bool
 bd:List OpD
instance:Inhabited NL:=⟨⟨[],false,[]⟩⟩
structure GC where
 d:NL
 na:Option Addr
 nc:Nat
 ba:Option Addr
 bc:Nat
def Fu(x:GC):List Value:=[Sl x.na x.d.nm.length x.nc,Sl x.ba x.d.bd.length x.bc]
def Ef(x:GC):List Value:=[Sl x.na x.d.nm.length x.nc,.bool x.d.j,Sl x.ba x.d.bd.length x.bc]
def Vy x:(Fu x).length=2:=rfl
def Tk x:(Ef x).length=3:=rfl
def Tg(G:Nat->Nat)(w:Wl)(t:Nat):Nat->Prop:=λb=>b<w.heap.size/\G b=t
structure Cp(w0:Wl)(G:Nat->Nat)(w:Wl)(rv lv:Vl)(rs ls:List GC):Prop where
 c:zB (Tg G w 0) w rv 2 rs.length (rs.flatMap Fu)
 e:zB (Tg G w 1) w lv 3 ls.length (ls.flatMap Ef)
 rn:∀x∈rs,Ints (Tg G w 2) .u8 w x.na x.d.nm.length (lf x.d.nm)
 ln:∀x∈ls,Ints (Tg G w 2) .u8 w x.na x.d.nm.length (lf x.d.nm)
 rb:∀i x,rs[i]?=some x->zQ (Tg G w (4+2*i)) w (Sl x.ba x.d.bd.length x.bc) x.d.bd
 lb:∀i x,ls[i]?=some x->zQ (Tg G w (5+2*i)) w (Sl x.ba x.d.bd.length x.bc) x.d.bd
 a:∀b,G b≠3->w0.heap.size<=b
def Tl{G w w'}(c:∀b,b<w.heap.size->G b≠3->w'.heap[b]?=w.heap[b]?){t}(d:t≠3):zS (Tg G w t) w w':=λb a=>c b a.1 (by rw[a.2];exact d)
def yR{G c w w'}(e:w.heap.size<=w'.heap.size)(d:∀b,b<w.heap.size->c b=G b)t:∀b,Tg G w t b->Tg c w' t b:=λb a=>⟨by have:=a.1;omega,(d b a.1).trans a.2⟩
def Cp.on{w0 w w' G k m l rs ls}(h:Cp w0 G w m l rs ls)(j:w.heap.size<=w'.heap.size)(f:∀b,b<w.heap.size->G b≠3->w'.heap[b]?=w.heap[b]?)(d:∀b,b<w.heap.size->k b=G b)(n:∀b,k b≠3->w0.heap.size<=b):Cp w0 k w' m l rs ls :=
 ⟨uA (h.c.on (Tl f oM)) (yR j d 0),uA (h.e.on (Tl f oM)) (yR j d 1),
  λx a=>((h.rn x a).on (Tl f oM)).g (yR j d 2),λx a=>((h.ln x a).on (Tl f oM)).g (yR j d 2),
  λi x a=>((h.rb i x a).on (Tl f oM)).g (yR j d _),λi x a=>((h.lb i x a).on (Tl f oM)).g (yR j d _),n⟩
def vV(G:Nat->Nat)(w:Wl)(t:Nat):Nat->Nat:=λb=>if b<w.heap.size then G b else t
def uR{G w t b}(h:b<w.heap.size):vV G w t b=G b:=Zp h
def jS{G w t b}(h:w.heap.size<=b):vV G w t b=t:=Zn oM
def Cp.h{w0 w w' G g f rs ls C}(h:Cp w0 G w g f rs ls)(k:zA C w w')(i:∀b,C b->G b=3)t(m:w0.heap.size<=w.heap.size):Cp w0 (vV G w t) w' g f rs ls :=
 h.on k.l (λb c j=>k.d b c (λq=>j (i b q))) (λb c=>uR c) (λb c=>by
  by_cases e:b<w.heap.size
  .rw[uR e]at c;exact h.a b c
  omega)
def Yp{G w w' t b}(h:zF w w' b):Tg (vV G w t) w' t b:=⟨h.2,jS h.1⟩
def ND{α:Type}{l:List α}{x:α}{P:Nat->α->Prop}(h:∀i y,l[i]?=some y->P i y)(b:P l.length x):∀i y,(l++[x])[i]?=some y->P i y:=λi y a=>by
 by_cases e:i<l.length
 .exact h i y (by rwa [Es e]at a)
 have:=(Bz.1 a).1;simp at this;obtain rfl:i=l.length:=oM;simp at a;exact a▸b
def NF{α:Type}{l:List α}{x:α}{P:α->Prop}(h:∀y∈l,P y)(a:P x):∀y∈l++[x],P y:=λy b=>(By.1 b).elim (h y) λq=>Bu.1 q▸a
def NG{w0 w:Wl}{G:Nat->Nat}(h:∀b,G b≠3->w0.heap.size<=b)(c:w0.heap.size<=w.heap.size)(t:Nat):∀b,vV G w t b≠3->w0.heap.size<=b:=λb a=>by
 by_cases e:b<w.heap.size
 .rw[uR e]at a;exact h b a
 omega
def NH{W W' G t m v l x}{f:GC->List Value}(own:zB (λb=>Tg G W t b\/W.heap.size<=b) W' v m (l.length+1) (l.flatMap f++f x))(k:0<m)(o:∀b,Tg G W t b->Tg (vV G W t) W' t b):zB (Tg (vV G W t) W' t) W' v m (l++[x]).length ((l++[x]).flatMap f):=by
 rw[show(l++[x]).length=l.length+1 by simp,show(l++[x]).flatMap f=l.flatMap f++f x by simp];rcases own with⟨_,q,_⟩|⟨g,cap,e,n,a,i,c,j⟩
 .omega
 refine .inr ⟨g,cap,e,n.elim (o g) λq=>⟨?_,jS q⟩,a,i,c,j⟩;have d:0<(l.flatMap f++f x).length:=by rw[a];exact Pi oM k
 have h:=c 0 d;rw[Bb d]at h;exact ud h
def Cp.n{w0 W2 W4 G r v4 k rs ls x}(h:Cp w0 G W2 r k rs ls)(p:w0.heap.size<=W2.heap.size)(m:Ints (Tg G W2 2) .u8 W2 x.na x.d.nm.length (lf x.d.nm))(f:zQ (Tg G W2 (4+2*rs.length)) W2 (Sl x.ba x.d.bd.length x.bc) x.d.bd)(own:zB (λb=>Tg G W2 0 b\/W2.heap.size<=b) W4 v4 2 (rs.length+1) (rs.flatMap Fu++Fu x))(g4:zT (Tg G W2 0) W2 W4):Cp w0 (vV G W2 0) W4 v4 k (rs++[x]) ls:=by
 have st:∀{t:Nat},t≠0->zS (Tg G W2 t) W2 W4:=λ{t} o b f=>g4.d b f.1 (λq=>o (f.2.symm.trans q.2));have c:∀t b,Tg G W2 t b->Tg (vV G W2 0) W4 t b:=yR g4.l (λb f=>uR f);exact⟨NH own oM (c 0),uA (h.e.on (st oM)) (c 1),NF (λy q=>((h.rn y q).on (st oM)).g (c 2)) ((m.on (st oM)).g (c 2)),λy j=>((h.ln y j).on (st oM)).g (c 2),ND (λi y j=>((h.rb i y j).on (st oM)).g (c _)) ((f.on (st oM)).g (c _)),λi y j=>((h.lb i y j).on (st oM)).g (c _),NG h.a p 0⟩
def Cp.l{w0 W2 W4 G k v4 p rs ls x}(h:Cp w0 G W2 k p rs ls)(o:w0.heap.size<=W2.heap.size)(m:Ints (Tg G W2 2) .u8 W2 x.na x.d.nm.length (lf x.d.nm))(f:zQ (Tg G W2 (5+2*ls.length)) W2 (Sl x.ba x.d.bd.length x.bc) x.d.bd)(own:zB (λb=>Tg G W2 1 b\/W2.heap.size<=b) W4 v4 3 (ls.length+1) (ls.flatMap Ef++Ef x))(g4:zT (Tg G W2 1) W2 W4):Cp w0 (vV G W2 1) W4 k v4 rs (ls++[x]):=by
 have st:∀{t:Nat},t≠1->zS (Tg G W2 t) W2 W4:=λ{t} n b f=>g4.d b f.1 (λq=>n (f.2.symm.trans q.2));have e:∀t b,Tg G W2 t b->Tg (vV G W2 1) W4 t b:=yR g4.l (λb f=>uR f);exact⟨uA (h.c.on (st oM)) (e 0),NH own oM (e 1),λy j=>((h.rn y j).on (st oM)).g (e 2),NF (λy q=>((h.ln y q).on (st oM)).g (e 2)) ((m.on (st oM)).g (e 2)),λi y j=>((h.rb i y j).on (st oM)).g (e _),ND (λi y j=>((h.lb i y j).on (st oM)).g (e _)) ((f.on (st oM)).g (e _)),NG h.a o 1⟩
def getElem?_set'{α:Type}{l:List α}{i j:Nat}{x y z:α}(b:l[i]?=some x)(h:(l.set i y)[j]?=some z):(j=i/\z=y)\/(j≠i/\l[j]?=some z):=by
 have a:=(Bz.1 b).1;by_cases e:j=i
 .subst e;rw[Ie a]at h;exact .inl ⟨rfl,(Qu h).symm⟩
 rw[Oz oM]at h;exact .inr ⟨e,h⟩
def NI{α:Type}{l:List α}{i:Nat}{y z:α}(h:z∈l.set i y):z=y\/z∈l:=(Vg h).symm
def Cp.m{w0 w G s rs ls g n c i j x y u}(h:Cp w0 G w (Sl (Sm g 0) n c) s rs ls)(p:rs[i]?=some x)(A:j<2)(E:Fu y=(Fu x).set j u)(v:Tg G w 0 g)(B:Ints (Tg G w 2) .u8 w y.na y.d.nm.length (lf y.d.nm))(o:zQ (Tg G w (4+2*i)) w (Sl y.ba y.d.bd.length y.bc) y.d.bd) :
  Cp w0 G (w.setCell (Ad g (i*2+j)) u) (Sl (Sm g 0) n c) s (rs.set i y) ls:=by
 have H:=(Bz.1 p).1;have st:∀{t:Nat},t≠0->zS (Tg G w t) w (w.setCell (Ad g (i*2+j)) u):=λ{t} D b o=>Bn (λe=>D (by rw[<-o.2,e];exact v.2));have f:∀t b,Tg G w t b->Tg G (w.setCell (Ad g (i*2+j)) u) t b:=yR (by rw[uh];exact zD) (λb o=>rfl);have C:n=rs.length:=by
  rcases h.c with⟨e,_⟩|⟨F,cap,e,_⟩
  .cases e
  injection e
 refine⟨?_,uA (h.e.on (st oM)) (f 1),λz l=>?_,λz l=>((h.ln z l).on (st oM)).g (f 2),λk z l=>?_,λk z l=>((h.lb k z l).on (st oM)).g (f _),h.a⟩
 .have r:=h.c;rw[C]at r ⊢;have:=uA (zB.n r (j:=i*2+j) (by rw[xL Fu 2 Vy];omega) u) (f 0);rw[EV Fu 2 Vy rs i j x y u p A E]at this;rw[Hb];exact this
 .rcases NI l with rfl|q
  .exact(B.on (st oM)).g (f 2)
  exact((h.rn z q).on (st oM)).g (f 2)
 rcases getElem?_set' p l with⟨rfl,rfl⟩|⟨_,q⟩
 .exact(o.on (st oM)).g (f _)
 exact((h.rb k z q).on (st oM)).g (f _)
def Cp.g{w0 w G r rs ls g n c i j x y u}(h:Cp w0 G w r (Sl (Sm g 0) n c) rs ls)(o:ls[i]?=some x)(v:j<3)(D:Ef y=(Ef x).set j u)(s:Tg G w 1 g)(A:Ints (Tg G w 2) .u8 w y.na y.d.nm.length (lf y.d.nm))(m:zQ (Tg G w (5+2*i)) w (Sl y.ba y.d.bd.length y.bc) y.d.bd) :
  Cp w0 G (w.setCell (Ad g (i*3+j)) u) r (Sl (Sm g 0) n c) rs (ls.set i y):=by
 have F:=(Bz.1 o).1;have st:∀{t:Nat},t≠1->zS (Tg G w t) w (w.setCell (Ad g (i*3+j)) u):=λ{t} C b m=>Bn (λe=>C (by rw[<-m.2,e];exact s.2));have f:∀t b,Tg G w t b->Tg G (w.setCell (Ad g (i*3+j)) u) t b:=yR (by rw[uh];exact zD) (λb m=>rfl);have B:n=ls.length:=by
  rcases h.e with⟨e,_⟩|⟨E,cap,e,_⟩
  .cases e
  injection e
 refine⟨uA (h.c.on (st oM)) (f 0),?_,λz l=>((h.rn z l).on (st oM)).g (f 2),λz l=>?_,λk z l=>((h.rb k z l).on (st oM)).g (f _),λk z l=>?_,h.a⟩
 .have p:=h.e;rw[B]at p ⊢;have:=uA (zB.n p (j:=i*3+j) (by rw[xL Ef 3 Tk];omega) u) (f 1);rw[EV Ef 3 Tk ls i j x y u o v D]at this;rw[Hb];exact this
 .rcases NI l with rfl|q
  .exact(A.on (st oM)).g (f 2)
  exact((h.ln z q).on (st oM)).g (f 2)
 rcases getElem?_set' o l with⟨rfl,rfl⟩|⟨_,q⟩
 .exact(m.on (st oM)).g (f _)
 exact((h.lb k z q).on (st oM)).g (f _)
def Cp.k{w0 w G m r rs ls}(h:Cp w0 G w m r rs ls){i x}(b:rs[i]?=some x):∃g c,m=Sl (Sm g 0) rs.length c/\Tg G w 0 g/\rs.length<=c/\w.cell? (Ad g (i*2))=some (Sl x.na x.d.nm.length x.nc)/\w.cell? (Ad g (i*2+1))=some (Sl x.ba x.d.bd.length x.bc)/\w.frozen? (Ad g (i*2))=false/\w.frozen? (Ad g (i*2+1))=false:=by
 have s:=(Bz.1 b).1;let⟨g,c,e,q,p,a⟩:=h.c.f oM;rw[xL Fu 2 Vy]at a;have j:=a (i*2) oM;have l:=a (i*2+1) oM;have n:=yA Fu 2 Vy rs i 0 x b oM;have o:=yA Fu 2 Vy rs i 1 x b oM;exact⟨g,c,e,q,p,j.1.trans n,l.1.trans o,j.2,l.2⟩
def Cp.f{w0 w G t m rs ls}(h:Cp w0 G w t m rs ls){i x}(b:ls[i]?=some x):∃g c,m=Sl (Sm g 0) ls.length c/\Tg G w 1 g/\ls.length<=c/\w.cell? (Ad g (i*3))=some (Sl x.na x.d.nm.length x.nc)/\w.cell? (Ad g (i*3+1))=some (.bool x.d.j)/\w.cell? (Ad g (i*3+2))=some (Sl x.ba x.d.bd.length x.bc)/\w.frozen? (Ad g (i*3+1))=false/\w.frozen? (Ad g (i*3+2))=false:=by
 have u:=(Bz.1 b).1;let⟨g,c,e,s,r,a⟩:=h.e.f oM;rw[xL Ef 3 Tk]at a;have q:=a (i*3) oM;have k:=a (i*3+1) oM;have l:=a (i*3+2) oM;have n:=yA Ef 3 Tk ls i 0 x b oM;have o:=yA Ef 3 Tk ls i 1 x b oM;have p:=yA Ef 3 Tk ls i 2 x b oM;exact⟨g,c,e,s,r,q.1.trans n,k.1.trans o,l.1.trans p,k.2,l.2⟩
def node(x:NL):ug:=⟨x.nm.length,lf x.nm,x.j,x.bd.length,df x.bd⟩
def gram(rs ls:List NL):Gr:=⟨rs.length,λi=>node (rs.getD i default),ls.length,λi=>node (ls.getD i default)⟩
def NJ{l:List GC}{i:Nat}{x:GC}(h:l[i]?=some x):(l.map (·.d)).getD i default=x.d:=by rw[El,Ev,h];rfl
def Cp.j{w0 w G E C rs ls}(h:Cp w0 G w E C rs ls):∃ra rc la lc,E=Sl ra rs.length rc/\C=Sl la ls.length lc/\zV (zF w0 w) w ra la (gram (rs.map (·.d)) (ls.map (·.d))):=by
 have o:∀{t:Nat},t≠3->∀b,Tg G w t b->zF w0 w b:=λ{t} J b l=>⟨h.a b (by rw[l.2];exact J),l.1⟩;let⟨ra,rc,u⟩:=uj h.c;let⟨la,lc,r⟩:=uj h.e;refine⟨ra,rc,la,lc,u,r,⟨?_,?_⟩⟩
 .by_cases x:rs.length=0
  .exact .inl (by show(rs.map (·.d)).length=0;rw[Bl];exact x)
  let⟨g,c,e,A,H,I⟩:=h.c.f oM;rw[u]at e;obtain rfl:ra=some (Ad g 0):=by injection e
  refine .inr ⟨g,0,rfl,o oM g A,λi z=>?_⟩;have hi':i<rs.length:=by
   have:i<(rs.map (·.d)).length:=z;rwa [Bl]at this
  have n:rs[i]?=some rs[i]:=Bb hi';have s:(Go.Proofs.YtmlblamikgkdcaaGreat.gram (rs.map (·.d)) (ls.map (·.d))).a i=node rs[i].d:=by show node _=_;rw[NJ n]
  rw[s];let⟨v,c',p,_,_,B,q,_,_⟩:=h.k n;rw[u]at p;obtain rfl:v=g:=by injection p with e1;injection e1 with e1;injection e1 with e1;exact e1.symm
  have l:=h.rb i _ n;let⟨_,F,m,y⟩:=l.a;injection m with _ _ m;rw[Bp];exact⟨⟨⟨_,_,B,(h.rn _ (Gi hi')).g (o oM)⟩,⟨_,_,q,l.e.g (o oM)⟩⟩,⟨_,_,q,by rw[m];exact y⟩⟩
 by_cases x:ls.length=0
 .exact .inl (by show(ls.map (·.d)).length=0;rw[Bl];exact x)
 let⟨g,c,e,A,H,I⟩:=h.e.f oM;rw[r]at e;obtain rfl:la=some (Ad g 0):=by injection e
 refine .inr ⟨g,0,rfl,o oM g A,λi z=>?_⟩;have hi':i<ls.length:=by
  have:i<(ls.map (·.d)).length:=z;rwa [Bl]at this
 have n:ls[i]?=some ls[i]:=Bb hi';have s:(Go.Proofs.YtmlblamikgkdcaaGreat.gram (rs.map (·.d)) (ls.map (·.d))).d i=node ls[i].d:=by show node _=_;rw[NJ n]
 rw[s];let⟨v,c',p,_,_,B,q,D,_,_⟩:=h.f n;rw[r]at p;obtain rfl:v=g:=by injection p with e1;injection e1 with e1;injection e1 with e1;exact e1.symm
 have l:=h.lb i _ n;let⟨_,F,m,y⟩:=l.a;injection m with _ _ m;rw[Bp];exact⟨⟨⟨_,_,B,(h.ln _ (Gi hi')).g (o oM)⟩,q,⟨_,_,D,l.e.g (o oM)⟩⟩,⟨_,_,D,by rw[m];exact y⟩⟩
def Cp.nil w0:Cp w0 (λ_=>3) w0 nS nS [] [] :=
 ⟨.inl ⟨rfl,rfl,rfl⟩,.inl ⟨rfl,rfl,rfl⟩,λx a=>(by cases a),λx a=>(by cases a),λi x a=>(by simp at a),λi x a=>(by simp at a),λb c=>aB rfl c⟩
structure Ay(gb:Nat)(w0:Wl)(G:Nat->Nat)(w:Wl)(rv lv:Vl)(rs ls:List GC):Prop where
 c0:w.cell? (Ad gb 0)=some rv
 c1:w.cell? (Ad gb 1)=some lv
 f0:w.frozen? (Ad gb 0)=false
 f1:w.frozen? (Ad gb 1)=false
 gr:Cp w0 G w rv lv rs ls
 tg:G gb=3
 lt:gb<w.heap.size
 le:w0.heap.size<=w.heap.size
def Ay.a{b R w0 w G d c rs ls}(h:Ay b w0 G w d c rs ls)(f:R<w0.heap.size):G R=3:=by
 by_cases e:G R=3
 .exact e
 have:=h.gr.a R e;omega
def Ay.h{c w0 w w' G i g rs ls C}(h:Ay c w0 G w i g rs ls)(k:zA C w w')(f:∀b,C b->b<w0.heap.size/\b≠c)t:Ay c w0 (vV G w t) w' i g rs ls:=by
 have e:=k.d c h.lt (λq=>(f c q).2 rfl);exact⟨(Bd (a:=(Ad c 0)) e).trans h.c0,(Bd (a:=(Ad c 1)) e).trans h.c1,(Dp (a:=(Ad c 0)) e).trans h.f0,(Dp (a:=(Ad c 1)) e).trans h.f1,
  h.gr.h k (λb q=>h.a (f b q).1) t h.le,by rw[uR h.lt];exact h.tg,Ba h.lt k.l,zP h.le k.l⟩
def NK{W g x t}(a:W.heap[g]?=some (Oc #[Sl x.na x.d.nm.length x.nc,Sl x.ba x.d.bd.length x.bc] t)):Src prog 2 31 (Sl (Sm g 0) 1 1) 1 (Fu x) W:=Xh underlying31 a rfl rfl rfl
def NM{W g x t}(a:W.heap[g]?=some (Oc #[Sl x.na x.d.nm.length x.nc,.bool x.d.j,Sl x.ba x.d.bd.length x.bc] t)):Src prog 3 32 (Sl (Sm g 0) 1 1) 1 (Ef x) W:=Xh underlying32 a rfl rfl rfl
def NN{c R n w W2 G u t v rs ls D z na N B}j(s:R<n.heap.size/\R≠c)(h:Ay c n G w u t rs ls)(k:zA (λb=>b=R) w W2)(F:Ints N .u8 W2 na z.length (lf z))(f:zQ B W2 v D)(r:∀b,N b->zF w W2 b)(p:∀b,B b->zF w W2 b)(A:∀b,N b->¬B b) :
  ∃i,Ay c n i W2 u t rs ls/\Ints (Tg i W2 2) .u8 W2 na z.length (lf z)/\zQ (Tg i W2 j) W2 v D:=by
 classical
 let i:Nat->Nat:=λb=>if b<w.heap.size then G b else if N b then 2 else if B b then j else 3
 have o:∀b,b<w.heap.size->i b=G b:=λb f=>Zp f;have m:=k.d c h.lt (λq=>s.2 q.symm);have x:=k.l;have E:=h.lt;refine⟨i,⟨(Bd (a:=(Ad c 0)) m).trans h.c0,(Bd (a:=(Ad c 1)) m).trans h.c1,(Dp (a:=(Ad c 0)) m).trans h.f0,(Dp (a:=(Ad c 1)) m).trans h.f1,
  h.gr.on x (λb f C=>k.d b f (λq=>C (by rw[q];exact h.a s.1))) o (λb f=>?_),by rw[o c E];exact h.tg,oM,zP h.le x⟩,F.g (λb q=>⟨(r b q).2,?_⟩),f.g (λb q=>⟨(p b q).2,?_⟩)⟩
 .by_cases e:b<w.heap.size
  .rw[o b e]at f;exact h.gr.a b f
  have:=h.le;omega
 .have y:=(r b q).1;show(if b<w.heap.size then G b else if N b then 2 else if B b then j else 3)=2;rw[Zn oM,Zp q]
 have y:=(p b q).1;show(if b<w.heap.size then G b else if N b then 2 else if B b then j else 3)=j;rw[Zn oM,Zn (λe=>A b e q),Zp q]
def O4{a b c W2 W4 G f e rs ls}(h:Ay a c G W2 f e rs ls)(g:b≠3)(g4:zT (Tg G W2 b) W2 W4):W4.heap[a]?=W2.heap[a]? :=
 g4.d a h.lt (λq=>by have:=q.2;rw[h.tg]at this;omega)
def xI{b f g W2 W4 G e d rs ls}(h:Ay b g G W2 e d rs ls)(i:f≠3)(g4:zT (Tg G W2 f) W2 W4):W4.cell? (Ad b 0)=some e/\W4.cell? (Ad b 1)=some d/\W4.frozen? (Ad b 0)=false/\W4.frozen? (Ad b 1)=false:=by
 have c:=O4 h i g4;exact⟨(Bd (a:=(Ad b 0)) c).trans h.c0,(Bd (a:=(Ad b 1)) c).trans h.c1,(Dp (a:=(Ad b 0)) c).trans h.f0,(Dp (a:=(Ad b 1)) c).trans h.f1⟩
def O5{c g W2 W4 G v k v4 rs ls x}(h:Ay c g G W2 v k rs ls)(u:Ints (Tg G W2 2) .u8 W2 x.na x.d.nm.length (lf x.d.nm))(f:zQ (Tg G W2 (4+2*rs.length)) W2 (Sl x.ba x.d.bd.length x.bc) x.d.bd)(own:zB (λb=>Tg G W2 0 b\/W2.heap.size<=b) W4 v4 2 (rs.length+1) (rs.flatMap Fu++Fu x))(g4:zT (Tg G W2 0) W2 W4):∃m,Ay c g m (W4.setCell (Ad c 0) v4) v4 k (rs++[x]) ls:=by
 let⟨o,p,q,r⟩:=xI h oM g4;have j:=h.gr.n h.le u f own g4;have t:=h.lt;have w:=h.le;have y:=g4.l;have i:vV G W2 0 c=3:=by rw[uR t];exact h.tg
 exact⟨vV G W2 0,Jm (by rw[o];rfl),(La sM).trans p,by rw[Et];exact q,by rw[Et];exact r,
  j.on (by rw[uh];exact zD) (λb f s=>Bn (λe=>s (by rw[show b=c from e];exact i))) (λb f=>rfl) j.a,i,by rw[uh];omega,by rw[uh];omega⟩
def O6{c g W2 W4 G k u v4 rs ls x}(h:Ay c g G W2 k u rs ls)(t:Ints (Tg G W2 2) .u8 W2 x.na x.d.nm.length (lf x.d.nm))(f:zQ (Tg G W2 (5+2*ls.length)) W2 (Sl x.ba x.d.bd.length x.bc) x.d.bd)(own:zB (λb=>Tg G W2 1 b\/W2.heap.size<=b) W4 v4 3 (ls.length+1) (ls.flatMap Ef++Ef x))(g4:zT (Tg G W2 1) W2 W4):∃m,Ay c g m (W4.setCell (Ad c 1) v4) k v4 rs (ls++[x]):=by
 let⟨n,o,p,q⟩:=xI h oM g4;have j:=h.gr.l h.le t f own g4;have s:=h.lt;have v:=h.le;have w:=g4.l;have i:vV G W2 1 c=3:=by rw[uR s];exact h.tg
 exact⟨vV G W2 1,(La sM).trans n,Jm (by rw[o];rfl),by rw[Et];exact p,by rw[Et];exact q,
  j.on (by rw[uh];exact zD) (λb f r=>Bn (λe=>r (by rw[show b=c from e];exact i))) (λb f=>rfl) j.a,i,by rw[uh];omega,by rw[uh];omega⟩
def NO(w:Wl){t}:Ay w.heap.size (w.alloc (Oc #[nS,nS] t)) (λ_=>3) (w.alloc (Oc #[nS,nS] t)) nS nS [] []:=by
 have a:=Eo w (Oc #[nS,nS] t);refine⟨?_,?_,?_,?_,Cp.nil _,rfl,sM,zD⟩
 .simp only[World.cell?,a];rfl
 .simp only[World.cell?,a];rfl
 .simp only[World.frozen?,a];rfl
 simp only[World.frozen?,a];rfl
def DR{P}{w}:zQ P w nS []:=⟨λ_=>0,[],⟨.inl ⟨rfl,rfl,rfl⟩,λi x a=>by simp at a⟩,rfl⟩
def Cp.p{w0 w1 w G f d rs ls}(h:Cp w0 G w f d rs ls)(i:w1.heap.size<=w0.heap.size):Cp w1 G w f d rs ls :=
 ⟨h.c,h.e,h.rn,h.ln,h.rb,h.lb,λb g=>zP i (h.a b g)⟩
def Cp.set{w0 w G d c u rs ls rb o}(h:Cp w0 G w d c rs ls)(g:G rb=3):Cp w0 G (w.setCell (Ad rb o) u) d c rs ls :=
 h.on (by rw[uh];exact zD) (λb f i=>Bn (λe=>i (by rw[show b=rb from e];exact g))) (λb f=>rfl) h.a
def Cp.r{w0 w G d c rs ls}(h:Cp w0 G w d c rs ls){b}(f:b<w0.heap.size):G b=3:=by
 by_cases e:G b=3
 .exact e
 have:=h.a b e;omega
section
open M (OpD ug Gr uw EX ins uT emit_len)
section
variable {K:EC} {A:Np} {s s':zC} {q:Nat} {W W':Wl} {P:Ew}
def EC.h.f(h:K.h A s q W P)(a:K.i s s' q [])(b:K.Wd A s' W')(k:K.Kp W W'):P (yU 0 (s'.c:Int) nS) W' :=
 h.ok s' [] (λ_=>False) none 0 0 W' a (b.h (λx q=>q.elim id False.elim)) (QD) k
def He{c:Av}{x:Nat}(h:K.Kp W W')(e:zG W x c)(f:x≠K.b):zG W' x c:=e.a (h.d x e.x.2.2 f)
def FK w d:Kf w (w.drewN d):=zA.j (Be (Qt w.heap.size w) d) (λk a _=>a)
def EC.E.c{n:Nat}{S:Nat->Int}(h:K.E (s.w n S K.il K.I))(a:s.c<K.il/\vq n S (K.I s.c)=true):K.E { s with c:=s.c+1,f:=s.f+1 }:=by
 rw[zC.w,Zp a]at h;exact h
def EC.E.b{n:Nat}{S:Nat->Int}(h:K.E (s.w n S K.il K.I))(a:¬(s.c<K.il/\vq n S (K.I s.c)=true)):(s.j=true->K.E s.h)/\(s.j=false->K.E (s.k n S).h):=by
 rw[zC.w,Zn a]at h;exact⟨λe=>by rw[e]at h;exact h,λe=>by rw[e]at h;exact h⟩
def EC.f.t{w d:Oa}{y xc k i:Nat}{m lb ps:Int}{V a:Wl}{M E':Nat->Bool}(p:K.Ok)(h:K.f A s w y xc m lb ps V)(o:∀x,A x->x<V.heap.size)(l:Br V a (Sl d (rg M 256).length i) (rg M 256))(u:(rg M 256).length=k)(r:∀b,b<256->M b=E' b) :
  K.f A { s with t:=E' } d k i m lb ps (a.setCell (Ad K.b 7) (Sl d k i))/\K.Kp V (a.setCell (Ad K.b 7) (Sl d k i)):=by
 have n:=utl l r;rw[u]at n;have z:=h.e.x.2.2;refine⟨⟨(h.e.on l.q).set 7 _,?_,uD (uf h.q l.q) p.b⟩,(zA.j l.q (λ_ q _=>q)).c (EC.c _ _)⟩;exact(n.on (MQ a (Ad K.b 7) _ (λq=>by have:=q.1;simp at this;omega))).g (λx q=>⟨by have:=q.1;omega,by rw[uh];exact q.2,λv=>by have:=o x v;have:=q.1;omega⟩)
def EC.f.a{j:Oa}{k xc:Nat}{d lb ps:Int}(g:K.Ok)(h:K.f A s j k xc d lb ps W)(z:Nat):K.f A { s with i:=z,t:=λ_=>false } none 0 0 d lb ps ((W.setCell (Ad K.b 6) (Iv (z:Int))).setCell (Ad K.b 7) nS)/\K.Kp W ((W.setCell (Ad K.b 6) (Iv (z:Int))).setCell (Ad K.b 7) nS) :=
 ⟨⟨(h.e.set 6 _).set 7 _,⟨Jj.symm,.inl rfl,λ_ _ _ e=>by cases e⟩,uD (uD h.q g.b) g.b⟩,(EC.c _ _).c (EC.c _ _)⟩
def QB{Q:Np}{d:Oa}{a:Nat}{M:Nat->Bool}(h:Fm Q W d a M){n:Nat}{S:Nat->Int}{b:Nat}(c:b<256):(vq a (lf (rg M 256)) (b:Int)||vq n S (b:Int))=(vq n S (b:Int)||M b):=by
 rw[h.1,uvY M c,Bool.or_comm]
def Ze{w}:Bw w w.drew:=(zH w).drew
def vv(k:Kf W W'):K.Kp W W':=k.h (λ_ q=>q.elim)
end
variable {K:EC} {m:Nat}
def X0(N:K.Ok)(o:OpD)(r:o.e=0):K.e m (.lf o):=by
 intro G off c p l V H U A s W P t S k C w O x E z D B F u L R j;simp only[TR.n]at k C t;subst t E z D;obtain⟨b,⟨sa,sc,h,T⟩,i⟩:=w;have d:=u.q;replace b:=ue b d;replace h:=ue h d;replace i:=ue i d;rw[r]at b;have I:=k;have J:¬c=0:=oM;have Q:=ud b;have e:(TR.lf o).a (M.bA K.g.nr)=.empty:=by simp[TR.a,M.bA,r]
 rw[e]at j;have v:=ua (j.f (s':=s) (W':=W.alloc (Oc #[Iv 0,Sl sa o.sl sc,Iv o.f] 185)) ⟨rfl,by rw[x];rfl,sM,B,F,zD,.nil zD⟩ (u.y zY) (vv zY));go_enter func136,ntmps136;go_wp2;exact zL (by simp[results,f136,go_sem]) rfl v
def X1(hK:K.Ok)(o:OpD)(hk:o.e=1):K.e m (.lf o):=by
 intro bb off c p l pv dv nv A s W P hl ak hc hn hT hL aa aw au aj he hs hw hA hm hR;simp only[TR.n]at hc hn hl;subst hl aw au;obtain⟨U,⟨sa,sc,c1,al⟩,Y⟩:=hT;have w:=hw.q;replace U:=ue U w;replace c1:=ue c1 w;replace Y:=ue Y w;rw[hk]at U;have f1:=hc;have f3:¬c=0:=oM;have ax:=ud U;have e:(TR.lf o).a (M.bA K.g.nr)=.set o.sl o.set:=by simp[TR.a,M.bA,hk]
 rw[e]at hR hL;let⟨hq,hr⟩:=Cr.q hL;have ac:o.sl<=1048576:=oH (M.cA (ak.2.2.2.1 hk));have G:=ua hK;have J:=ua hR;have HS:=ua al;have ag:=ua aj;have am:=ua aa;have ap:=ua hs;generalize hX:W.alloc (Oc #[Iv 1,Sl sa o.sl sc,Iv o.f] 185)=X;have B:=ua (hX▸um W #[Iv 1,Sl sa o.sl sc,Iv o.f] 185);have KX:Hid (Kf W X):=hX▸zY;have ab:W.heap.size≠K.b:=oH hw.lt;have TK:Hid (∀P',_->_->Cs 78 #[.pointer (Sm K.b 0)] X P'):=λP'=>yV (P:=P') hK (hw.y KX) he hs aa hq;rw[hr]at TK;clear hR al aj aa hs he hw ak hL w hk e hr;go_enter func136,ntmps136;let⟨z,p',lz⟩:=B.x;go_wp2_with fail;clear z p' lz;refine TK _ (λW1 w1 N e1 g1 l1=>?_) (λW1 w1 N=>?_)
 rotate_left
 .go_wp2;exact zL (by simp[results,f136,go_sem]) rfl (J.b (s.c:Int) _ w1 ((vv KX).c N))
 have k2:=(vv KX).c N;let⟨ai,hh⟩:=nm (decide (s.c<K.il/\vq o.sl o.set (K.I s.c)=true));have T:=ua hh;have af:=ua N;let⟨z,p',lz⟩:=(He N B ab).x;obtain⟨xa,xn,xc,cd,lb,ps,w1⟩:=w1;have ah:=w1.q;let⟨y,py,ly⟩:=w1.e.x;simp only[EC.wd,zC.g]at y;have u:=ua w1;have j:=ua e1;have r:=ua g1;have ao:=ua k2;have HA:=ua hA;clear hh w1 e1 g1 k2 N TK hA;go_upto_region 17 with fail;go_cut [115] (λv wc=>v=.bool ai/\Kf W1 wc)
 .by_cases E:s.c<K.il
  .rcases G.c with h0|⟨ib,a3,av,az,hI⟩
   .omega
   have hi:=ue (hI s.c E) ah;have aq:=G.h s.c E;have ae:=ua T;let⟨x,L⟩:=nm (K.I s.c);rw[L]at hi aq ae;rw[av]at y;have a4:=ud hi;have hp':(s.c:Int)<(K.il:Int):=oM;clear hI L;have HQ:Hid (∀d,Cs 181 #[Sl sa o.sl sc,Iv x] (W1.drewN d) (JW (vq o.sl o.set x) (W1.drewN d))):=λd=>qj K.Q sa o.sl sc o.set x (HS.h (uf ah (FK W1 d).q)) ac;go_quiet (first|(go_at_call 181;exact Ho (HQ _)));go_wp2;go_meet;exact⟨by rw[<-ae.o];simp[E],FK _ _⟩
  have hp':decide ((s.c:Int)<(K.il:Int))=false:=Ix oM;go_quiet (fail);go_wp2;go_meet;exact⟨by rw[<-T.o];simp[E],FK _ _⟩
 obtain⟨rfl,kc⟩:=hcut;replace u:=ua (u.y kc);have H:=ua (ao.c (vv kc));have ad:Hid (∀x,A x->x<wc.heap.size):=λx L=>Ba (HA x L) H.l;have a0:=ap.thr;replace j:=ua j;let⟨y,py,ly⟩:=u.e.x;simp only[EC.wd,zC.g]at y;let⟨z,p',lz⟩:=(He (af.c (vv kc)) B ab).x;cases ai with
 |true =>
  have E:=of_decide_eq_true T;have hp':=E.1;have ay:=G.il;replace j:=ua (j.c E);go_wp2;exact zL (by simp[results,f136,go_sem]) rfl (J.f (s':={ s.g with c:=s.c+1,f:=s.f+1 }) ⟨rfl,by show s.f+1=_;rw[am.o];rfl,by simp[zC.g],j,⟨r.e,r.thr,r.a,r.st,r.c⟩,Gx _,.nil (Gx _)⟩ (EC.Wd.d (s:=s.g) ⟨_,_,_,_,_,_,u⟩ rfl rfl rfl rfl) H)
 |false =>
  replace j:=ua (j.b (of_decide_eq_false T));cases nv with
  |true =>
   replace j:=ua (j.1 ag.symm);go_wp2;exact zL (by simp[results,f136,go_sem]) rfl (J.h s.g (s.c:Int) _ (.of j r rfl rfl (Gx _)) ⟨_,_,_,_,_,_,u⟩ H)
  |false =>
   replace j:=ua (j.2 ag.symm);by_cases h1:s.i<s.c
   .have h1':(s.i:Int)<(s.c:Int):=oM;have e:s.g.k o.sl o.set={ s.g with i:=s.c,t:=λb=>vq o.sl o.set (b:Int) }:=Zp h1;rw[e]at j;clear e;have F:=u.a G s.c;generalize hV:(wc.setCell (Ad K.b 6) (Iv s.c)).setCell (Ad K.b 7) nS=V at F;have HV:=ua F.1;have KV:=ua F.2;have O:=ua F.1.ex;let⟨y',a7,a5⟩:=F.1.e.x;simp only[EC.wd,zC.g]at y';let⟨z',q',a6⟩:=(He (af.c ((vv kc).c F.2)) B ab).x;have an:Hid (∀x,A x->x<V.heap.size):=λx L=>Ba (ad x L) KV.l;clear F;go_upto_region 23 with fail;go_region_with (go_at_call 186;refine(jB _ K.Q none sa 0 o.sl 0 sc (lf (rg (λ_=>false) 256)) o.set (O.2.1.h (Ze)) (HS.h (uf HV.q (Ze))) oM ac).mono ?_;rintro e V2 ⟨a2,Y,rfl,C⟩;generalize D:(rg (λb=>vq 0 (lf (rg (λ_=>false) 256)) (b:Int)||vq o.sl o.set (b:Int)) 256).length=m2 at *;let⟨S,R⟩:=EC.f.t (E':=λb=>vq o.sl o.set (b:Int)) G (HV.y Cj) an (D▸C) D (λb w=>(QB O w).trans (Qx _));have W3:=ua S;have K3:=ua (H.c (KV.c (Cj.c R)));let⟨y,py,ly⟩:=((HV.y Cj).e.on C.q).x;simp only[EC.wd,zC.g]at y;clear C D S R);all_goals go_wp2
    all_goals exact zL (by simp[results,f136,go_sem]) rfl (J.h { s.g with i:=s.c,t:=λb=>vq o.sl o.set (b:Int) } (s.c:Int) _ (.of j ⟨r.e,r.thr,r.a,r.st,r.c⟩ rfl rfl (Gx _)) ⟨_,_,_,_,_,_,W3⟩ K3)
   have h1':¬(s.i:Int)<(s.c:Int):=oM;by_cases Z:s.c=s.i
   .have h2':((s.c:Int)==(s.i:Int))=true:=(by simp[Z]);have e:s.g.k o.sl o.set={ s.g with t:=λb=>vq o.sl o.set (b:Int)||s.t b }:=(Zn h1).trans (Zp Z);rw[e]at j;clear Z e;have O:=ua u.ex;have a1:=u.ex.le;go_upto_region 23 with fail;go_region_with (go_at_call 186;refine(jB _ K.Q xa sa xn o.sl xc sc (lf (rg s.t 256)) o.set (O.2.1.h (Ze)) (HS.h (uf u.q (Ze))) oM ac).mono ?_;rintro e V2 ⟨a2,Y,rfl,C⟩;generalize D:(rg (λb=>vq xn (lf (rg s.t 256)) (b:Int)||vq o.sl o.set (b:Int)) 256).length=m2 at *;let⟨S,R⟩:=EC.f.t (E':=λb=>vq o.sl o.set (b:Int)||s.t b) G (u.y Cj) ad (D▸C) D (λb w=>QB O w);have W3:=ua S;have K3:=ua (H.c (Cj.c R));let⟨y,py,ly⟩:=((u.y Cj).e.on C.q).x;simp only[EC.wd,zC.g]at y;clear C D S R);all_goals go_wp2
    all_goals exact zL (by simp[results,f136,go_sem]) rfl (J.h { s.g with t:=λb=>vq o.sl o.set (b:Int)||s.t b } (s.c:Int) _ (.of j ⟨r.e,r.thr,r.a,r.st,r.c⟩ rfl rfl (Gx _)) ⟨_,_,_,_,_,_,W3⟩ K3)
   have h2':((s.c:Int)==(s.i:Int))=false:=sO;have e:s.g.k o.sl o.set=s.g:=(Zn h1).trans (Zn Z);rw[e]at j;go_wp2;exact zL (by simp[results,f136,go_sem]) rfl (J.h s.g (s.c:Int) _ (.of j r rfl rfl (Gx _)) ⟨_,_,_,_,_,_,u⟩ H)
end
section
open M (OpD ug Gr uw EX ins uT emit_len)
def Zg(P:Ew)(e:Ending)(W:Wl):Prop:=∃h z a n c,e=yU h z (Sl a n c)/\P e W
def EC.h.d{K:EC}{A:Np}{s}{q:Nat}{W}{P:Ew}(h:K.h A s q W P):K.h A s q W (Zg P) :=
 ⟨λs' L B a n c W' e f g i=>⟨_,_,a,n,c,rfl,h.ok s' L B a n c W' e f g i⟩,λs' z W' e f g=>⟨_,_,_,_,_,rfl,h.h s' z W' e f g⟩,λz W' e f=>⟨_,_,_,_,_,rfl,h.b z W' e f⟩⟩
def EC.h.e{K:EC}{A:Np}{s}{q:Nat}{W V}{P:Ew}(h:K.h A s q W P)(k:K.Kp W V):K.h A s q V P :=
 ⟨λs' L B a n c W' d f g i=>h.ok s' L B a n c W' d f (g.b k.l) (k.c i),λs' z W' d f g=>h.h s' z W' d f (k.c g),λz W' d f=>h.b z W' d (k.c f)⟩
def qF{s:zC}{mO:Int}(f:Cf)(h:(s.st.length:Int)<mO):s.m f mO={ s with st:=s.st++[f] }:=Zn oM
def FM{nr a n B}(h:M.bC nr a n B):0<n:=by
 by_cases e:n=0
 .subst e;have:=h.2.2;simp[M.dep]at this
 omega
def QF args w:(callFunc 80 args).run prog w=.ok (.enter 80 args) w:=by simp[callFunc,func80,f80,go_sem]
def X7{g}(a:M.Sound g){j}(b:j<g.nb):(g.d j).j=decide (0<(nd g (g.nr+j)).bl):=by
 rw[yZ];cases h:(g.d j).j with
 |true=>have:=(a.lb j b h);simp;exact FM this
 |false=>have:=a.lz j b h;simp;omega
variable {K:EC} {m:Nat}
def X8(J:K.Ok)(hN:∀j,j<m->K.l j)(o:OpD)(v:o.e=2):K.e m (.lf o):=by
 intro bb off c p l pv r nv A s W P hl ab hc hn hT U Z al aa ag he hs N hA hm Y;simp only[TR.n]at hc hn hl;subst hl al;obtain⟨H,⟨sa,sc,c1,am⟩,I⟩:=hT;have L:=N.q;replace H:=ue H L;replace c1:=ue c1 L;replace I:=ue I L;let⟨j,u⟩:=qp ab.2;have h6:=ab.2.2.2.2.2.2;unfold M.bF at h6;rw[Zn oM,Zp v,u]at h6;have ae:j<K.g.nr:=oM;have hr:=J.a.r2;have TG:=ua (λw=>ZV K.ra K.la sa K.g.nr K.rc K.g.nb K.lc sc o w (.inl v) v u oM oM oM);have ah:M.tg K.g.nr o=j:=by unfold M.tg;rw[Zn oM,u];rfl
 rw[ah]at TG;have e:(TR.lf o).a (M.bA K.g.nr)=.ref j:=by simp[TR.a,M.bA,v,u]
 rw[v]at H;rw[u]at I;have f1:0<c:=hc;have f3:¬c=0:=oM;have ao:=ud H;rw[e]at Y U;let⟨hq,hr⟩:=Cr.q U;have HK:=ua J;have R:=ua Y;have af:W.heap.size≠K.b:=oH N.lt;generalize hX:W.alloc (Oc #[Iv 2,Sl sa o.sl sc,Iv j] 185)=X;have B:=ua (hX▸um W #[Iv 2,Sl sa o.sl sc,Iv j] 185);have G:Hid (Kf W X):=hX▸zY;have T:Hid (∀S,_->_->Cs 78 #[.pointer (Sm K.b 0)] X S):=λS=>yV (P:=S) J (N.y G.o) he hs Z hq;rw[hr]at T;have aq:r<=1000:=oG hs.c J.m1;have ap:0<=r:=oM;have an:IntKind.i64.wrap (r+1)=r+1:=by rw[aa];exact uB (s.st.length+1) oM
 have HD:=ua aa;have aj:=ua ag;have ai:=ua Z;have HA:=ua hA;have HM:=ua hm;have HN:=ua hN;clear Y am ag Z hs he N ab U L v e hr aa hA hm hN u ah;go_enter func136,ntmps136;let⟨z,p',lz⟩:=B.o.x;go_wp2_with fail;clear z p' lz;refine T.o _ (λW1 w1 D e1 t l1=>?_) (λW1 w1 D=>?_)
 rotate_left
 .go_wp2;exact zL (by simp[results,f136,go_sem]) rfl (R.o.b (s.c:Int) _ w1 ((vv G.o).c D))
 let⟨z,p',lz⟩:=(He D B.o af).x;have Q:=ua D;have C:Hid (K.E (({ s.g with f:=Ee K.g j }:zC).m ⟨2,s.f+1,0,0⟩ K.a)):=e1;have k:Hid (K.Sg { s.g with f:=Ee K.g j }):=⟨t.e,t.thr,t.a,t.st,t.c⟩;have HW:Hid (K.Wd A { s.g with f:=Ee K.g j } W1):=w1.d rfl rfl rfl rfl;clear e1 t w1 D T;go_wp2_with fail;refine Tz HK.o (by rw[HD.o];rfl) HW.o k.o (λW2 F O l2=>?_) (λW2 h1 h2 O=>?_)
 rotate_left
 .have h3:=h2 (Ends.d (by have:=C.o;rw[h1]at this;exact this) rfl);go_wp2;exact zL (by simp[results,f136,go_sem]) rfl (R.o.b (s.c:Int) _ h3 (((vv G.o).c Q.o).c O))
 let⟨z,p',lz⟩:=(He (Q.o.c O) B.o af).x;have ac:=ua (((vv G.o).c Q.o).c O);replace C:=ua (qF ⟨2,s.f+1,0,0⟩ l2▸C.o);have ND:Hid (∀V,Kf W2 V->Cs 80 #[.pointer (Sm K.b 0),Iv j,Iv s.c,Iv (r+1),.bool nv] V (Zg P)):=λV kV=>by
  have au:(s.b:Int)<K.d:=l1;refine HN.o (m-1) (oH HM.o) j (p+1) _ _ _ _ A s { s.g with f:=Ee K.g j,st:=s.st++[⟨2,((p+1:Nat):Int),0,0⟩] } V _ oM (by rw[vY K.g ae];exact FM (HK.o.a.rb j ae)) rfl rfl rfl ⟨rfl,rfl⟩ (Gx _) rfl ?_ ?_ ?_ ?_ ((F.y kV).d rfl rfl rfl rfl) (λx hx=>Ba (HA.o x hx) (ac.o.c (vv kV)).l) ?_ (R.o.e (ac.o.c (vv kV))).d
  .rw[HD.o];simp
  .rw[aj.o];simp[zC.j]
  .have:=C.o;rw[ai.o]at this;exact this
  .exact⟨k.o.e,k.o.thr,k.o.a,k.o.st,by have:=l2;simp;exact this⟩
  show(K.d-((s.b+1:Nat):Int)).toNat<=m-1;have:=HM.o;omega
 obtain⟨xa,xn,xc,cd,lb,ps,F⟩:=F;let⟨y,py,ly⟩:=F.e.x;simp only[EC.wd]at y;clear F C k HW;go_upto_region 37 with fail;go_region_law (first
  |(refine uF KD rfl #[.tmp 214,.tmp 215] #[34,185] rfl (ys:=#[.agg #[Sl K.ra K.g.nr K.rc,Sl K.la K.g.nb K.lc],.agg #[Iv 2,Sl sa o.sl sc,Iv (j:Int)]]) (by simp[Act.eval,Act.put]) ((TG.o _).mono ?_);rintro e W3 ⟨rfl,ad⟩;have K3:Hid (Kf W2 W3):=Cj.c (zA.j ad (λ_ q _=>q));clear ad;refine⟨_,rfl,?_⟩)
  |(refine uF QF rfl #[.tmp 210,.tmp 216,.tmp 217,.tmp 219,.tmp 220] #[152,3,3,3,4] rfl (ys:=#[.pointer (Sm K.b 0),Iv (j:Int),Iv (s.c:Int),Iv (r+1),.bool nv]) (by simp[Act.eval,Act.put,an]) ((ND.o _ K3.o).mono ?_);rintro e W4 ⟨h,z2,a2,n2,I,rfl,HP⟩;have ak:=ua HP;clear HP;unfold yU;refine⟨_,rfl,?_⟩))
 all_goals go_wp2
 all_goals exact zL (by simp[results,f136,go_sem]) rfl ak.o
end
section
open M (OpD ug Gr uw EX ins uT emit_len)
def FO(l:List Cf)(f:Cf):(l++[f]).any (λf=>f.e==1)=(l.any (λf=>f.e==1)||f.e==1):=sM
def Y2{s:zC}{l:List Cf}{f:Cf}(h:s.st=l++[f])(a:f.e=1)(il:Nat)(I:Nat->Int)(mO:Int):s.q (ins 5 0 0) il I mO=s.u.h:=by
 have b:s.v 1=true:=by unfold zC.v;rw[h,Tf];simp[a]
 unfold zC.q;simp[ins,b]
def FP{s:zC}{l:List Cf}{f:Cf}(h:s.st=l++[f]):s.u.st=l:=by unfold zC.u;simp[h]
section
variable {K:EC} {s s1 s':zC}
def EC.j.to(h:K.j s1 s'){f:Cf}(k:s1.st=s.st++[f])(r:f.e≠2)(t:f.a=s.a.length)(i:s1.a=s.a){q:Nat}(v:f.to=(q:Int))(u:s.b<=s1.b):∃g,K.E g/\K.Sg g/\g.st=s.st/\g.a=s.a/\g.c=f.c/\g.f=(q:Int)/\s.b<=g.b/\s1.b<=g.b/\∀A W,K.Wd A s' W->K.Wd A g W:=by
 have e:=h.e;rw[h.b k r t i]at e;let⟨F,l,_⟩:=h.st;let⟨L,m⟩:=h.a;have n:=h.sg.a;have o:=h.sg.c;rw[m,i,zJ]at n;rw[l,k,zJ,zJ]at o;refine⟨_,e,⟨h.sg.e,h.sg.thr,by show s.a.length<=s'.b;omega,h.sg.st,by show(s.st.length:Int)<=_;omega⟩,rfl,rfl,rfl,v,zP u h.p,h.p,λA W w=>w.d rfl rfl rfl rfl⟩
end
variable {K:EC} {m:Nat}
def Y3(hK:K.Ok)(o:OpD)(hk:o.e=7)(x:TR)(ix:K.e m x):K.e m (.un o x):=by
 intro bb off c p l pv dv nv A s W P hl ai hc hn hT C ab an ag am he hs V hA hm T;simp only[TR.n]at hc hn hl;subst an;obtain⟨hx,H,⟨sa,sc,c1,ao⟩,c2⟩:=hT;have U:=V.q;replace H:=ue H U;replace c1:=ue c1 U;replace c2:=ue c2 U;let⟨k,ac⟩:=nm x.n;have nx:=x.n0;rw[ac]at H c1 c2 hc hn hl nx;subst hl;have x2:((k+1:Nat):Int)-1=(k:Int):=oM;have x3:(k:Int)<((k+1:Nat):Int):=oM;have z6:=uB k oM;have f1:k<c:=oM;have f2:k<=c:=oM;have f3:¬c=0:=oM;rw[hk]at H;have ap:=ud H;have e:(TR.un o x).a (M.bA K.g.nr)=.not (x.a (M.bA K.g.nr)):=by simp[TR.a,M.bA,hk]
 rw[e]at T C;let⟨xl,Y⟩:=nm (x.a (M.bA K.g.nr)).c;simp only[uT,EX.c,Y]at T C;let⟨hq,hr⟩:=C.q;have HL:=ua C.a.g;have ad:=C.a.b;rw[emit_len,Y]at ad;have ae:=ua ad.q;have af:=ua Y;have HK:=ua hK;have t:=ua T;have ah:W.heap.size≠K.b:=oH V.lt;generalize hX:W.alloc (Oc #[Iv 7,Sl sa o.sl sc,Iv o.f] 185)=X;have B:=ua (hX▸um W #[Iv 7,Sl sa o.sl sc,Iv o.f] 185);have S:Hid (Kf W X):=hX▸zY;have v:Hid (∀G,_->_->Cs 78 #[.pointer (Sm K.b 0)] X G):=λG=>yV (P:=G) hK (V.y S.o) he hs ab hq;rw[hr]at v;have au:dv<=1000:=oG hs.c hK.m1;have aq:0<=dv:=oM;have HD:=ua ag;have aj:=ua ab;have HA:=ua hA;have HM:=ua hm;have IX:=ua (ix bb off c (p+1) k · (dv+1) true A · · · ac.symm ai.2.2 oM oM hx HL.o);clear T ao am ab hs he V ai C U hk e hr ag hA hm ix hx ac ad Y;go_enter func136,ntmps136;let⟨z,p',lz⟩:=B.o.x;go_wp2_with fail;clear z p' lz;refine v.o _ (λW1 w1 I e1 w l1=>?_) (λW1 w1 I=>?_)
 rotate_left
 .go_wp2;exact zL (by simp[results,f136,go_sem]) rfl (t.o.b (s.c:Int) _ w1 ((vv S.o).c I))
 let⟨z,p',lz⟩:=(He I B.o ah).x;have aa:=ua I;have O:Hid (K.E (({ s.g with f:=s.f+1 }:zC).m ⟨1,((p+xl+2:Nat):Int),s.c,s.a.length⟩ K.a)):=e1;have D:Hid (K.Sg { s.g with f:=s.f+1 }):=⟨w.e,w.thr,w.a,w.st,w.c⟩;have HW:Hid (K.Wd A { s.g with f:=s.f+1 } W1):=w1.d rfl rfl rfl rfl;clear e1 w w1 I v;go_wp2_with fail;refine Tz HK.o (by rw[HD.o];rfl) HW.o D.o (λW2 w2 k2 l2=>?_) (λW2 h1 h2 k2=>?_)
 rotate_left
 .have h3:=h2 (Ends.d (by have:=O.o;rw[h1]at this;exact this) rfl);go_wp2;exact zL (by simp[results,f136,go_sem]) rfl (t.o.b (s.c:Int) _ h3 (((vv S.o).c aa.o).c k2))
 let⟨z,p',lz⟩:=(He (aa.c k2) B ah).x;have Q:=ua (((vv S).c aa).c k2);replace O:=ua (qF ⟨1,((p+xl+2:Nat):Int),s.c,s.a.length⟩ l2▸O.o);have al:=ua w2;have av:=l1;go_wp2_with fail;let⟨s1,i⟩:=nm ({ s.g with f:=s.f+1,st:=s.st++[⟨1,((p+xl+2:Nat):Int),s.c,s.a.length⟩] }:zC);have Z:s1.st=s.st++[⟨1,((p+xl+2:Nat):Int),s.c,s.a.length⟩]:=i▸rfl;have i2:s1.a=s.a:=i▸rfl;have i3:s1.b=s.b+1:=i▸rfl;refine IX _ s1 W2 _ ?_ (i▸rfl) ?_ ?_ ?_ ?_ (i▸al.d rfl rfl rfl rfl) (λy hy=>Ba (HA y hy) Q.l) ?_ ⟨λs' L B' a n c' W3 f N r J=>?_,λs' z3 W3 f N J=>?_,λz3 W3 N J=>?_⟩
 .rw[<-i];show s.f+1=_;rw[aj.o];rfl
 .rw[Z,HD.o];simp
 .unfold zC.j;rw[Z,FO];simp
 .exact i▸O.o
 .exact i▸⟨D.e,D.thr,D.a,D.st,by have h:(s.st.length:Int)<K.a:=l2;show((s.st++[_]).length:Int)<=_;rw[zJ,Dd];omega⟩
 .rw[i3];have:=HM.o;omega
 .have k4:=Q.c J;have F:=ua f;have i4:=f.st.trans Z;have v:=ua (λG=>yV (P:=G) HK (N.h (B:=A) (λ_=>.inl)) f.e f.sg f.f (by rw[af.o];exact ae.1));rw[af.o,ae.o.2]at v;have K4:=ua k4;unfold yU;go_wp2_with fail;refine v _ (λW4 w4 k5 e4 g4 l4=>?_) (λW4 w4 k5=>?_)
  .rw[Y2 (s:=s'.g) i4 rfl]at e4;have ak:=ua e4;go_wp2;refine zL (by simp[results,f136,go_sem]) rfl (t.h s'.g.u (s.c:Int) _ ⟨⟨[],by rw[FP (s:=s'.g) i4];simp,λf h=>by cases h⟩,⟨L,F.a.trans (by rw[i2])⟩,ak,⟨g4.e,g4.thr,g4.a,g4.st,?_⟩,?_⟩ (w4.d rfl rfl rfl rfl) (K4.c k5))
   .rw[FP (s:=s'.g) i4];have:=g4.c;rw[show s'.g.st=_ from i4]at this;simp at this;omega
   have:=F.p;show s.b<=s'.b+1;omega
  go_wp2;exact zL (by simp[results,f136,go_sem]) rfl (t.b (s.c:Int) _ w4 (K4.c k5))
 .let⟨s2,h1,h2,h3,h4,h5,h6,h7,_,h8⟩:=f.to (s:=s) Z (by show(1:Int)≠2;decide) rfl i2 rfl oM;have h5':=h5;have R:=ua (t.f (s':=s2) ⟨h3,by rw[h6,<-Gy],by rw[h4];simp,h1,h2,h7,h5'▸.nil zD⟩ (h8 _ _ N) (Q.c J));rw[h5']at R;unfold yU;go_wp2;exact zL (by simp[results,f136,go_sem]) rfl R
 have R:=ua (t.b (s.c:Int) _ N (Q.c J));unfold yU;go_wp2;exact zL (by simp[results,f136,go_sem]) rfl R
end
section
open M (OpD ug Gr uw EX ins uT emit_len)
def EC.Wd.f{K:EC}{A B C:Np}{s W W'}(h:K.Wd A s W)(k:zA B W W')(m:∀x,B x->A x)(i:∀x,B x->K.w0.heap.size<=x/\x≠K.b)(n:∀x,C x->A x\/W.heap.size<=x):K.Wd C s W':=by
 obtain⟨o,p,xc,j,lb,ps,h⟩:=h;refine⟨o,p,xc,j,lb,ps,h.e.a (k.d _ h.e.x.2.2 (λq=>(i _ q).2 rfl)),(h.ex.on (λx c=>k.d x c.2.1 (λq=>c.2.2 (m x q)))).g (λx c=>⟨c.1,Ba c.2.1 k.l,λq=>(n x q).elim c.2.2 (λq=>oH c.2.1)⟩),?_⟩;exact⟨k.os.trans h.q.os,k.g.trans h.q.tape,k.f.trans h.q.output,zP h.q.size k.l,λx c=>(k.d x (oH h.q.size) (λq=>oH ((i x q).1))).trans (h.q.block x c)⟩
def QG(K:EC)(A:Np)(s:zC)(W:Wl)(p e:Nat)(v u:Vl)(wr:Wl):Prop :=
 ∃(d:zC) (L:List Cm) (B:Np) (a:Oa) (n c:Nat),v=Sl a n c/\u=Iv (d.c:Int)/\d.st=s.st++[⟨0,((p+e+2:Nat):Int),d.c,d.a.length⟩]/\d.a=s.a++L/\d.f=((p+1:Nat):Int)/\K.E d/\K.Sg d/\K.Wd (λx=>A x\/B x) d wr/\Df W wr B (Sl a n c) L/\K.Kp W wr/\s.b+1<=d.b/\Nst K.g.nb s.c d.c L
def FN(K:EC)(wr:World):Nat:=match wr.cell? (Ad K.b 5) with|some (.int _ z)=>z.toNat|_=>0
def QH{K A s W}(h:K.Wd A s W):FN K W=s.b:=by
 obtain⟨_,_,_,_,_,_,h⟩:=h;have:=h.e.x.1 5;unfold FN;rw[this];rfl
def X9{s:zC}{l:List Cf}{f:Cf}(h:s.st=l++[f])(g:f.e=0)(il:Nat)(I:Nat->Int){mO z:Int}(i:(l.length:Int)<mO):s.q (ins 3 0 z) il I mO={ s with f:=z,st:=l++[⟨0,f.to,s.c,s.a.length⟩] }:=by
 have j:s.v 0=true:=by unfold zC.v;rw[h,Tf];simp[g]
 have d:Lv s.st=f.to:=by unfold Lv;rw[h,Tf]
 have b:=FP h;have:s.q (ins 3 0 z) il I mO=({ s.u with f:=z }:zC).m ⟨0,Lv s.st,s.c,s.a.length⟩ mO:=by unfold zC.q;simp[ins,j]
 rw[this,qF _ (by show((s.u.st.length:Nat):Int)<mO;rw[b];exact i),d,b];rfl
variable {K:EC} {m:Nat}
def Y0(hK:K.Ok)(o:OpD)(G:o.e=6)(x:TR)(ix:K.e m x):K.e m (.un o x):=by
 intro bb off c p l pv dv nv A s W P hl al hc hn hT U ac au ai ak he hs V hA hm hR;simp only[TR.n]at hc hn hl;subst au;obtain⟨i,c0,⟨sa,sc,c1,av⟩,c2⟩:=hT;have t:=V.q;replace c0:=ue c0 t;replace c1:=ue c1 t;replace c2:=ue c2 t;let⟨k,ad⟩:=nm x.n;have nx:=x.n0;rw[ad]at c0 c1 c2 hc hn hl nx;subst hl;have x2:((k+1:Nat):Int)-1=(k:Int):=oM;have x3:(k:Int)<((k+1:Nat):Int):=oM;have z6:=uB k oM;have f1:k<c:=oM;have f2:k<=c:=oM;have f3:¬c=0:=oM;rw[G]at c0;have aw:=ud c0;have e:(TR.un o x).a (M.bA K.g.nr)=.star (x.a (M.bA K.g.nr)):=by simp[TR.a,M.bA,G]
 rw[e]at hR U;let⟨N,aa⟩:=nm (x.a (M.bA K.g.nr)).c;simp only[uT,EX.c,aa]at hR U;let⟨hq,H⟩:=U.q;have HL:=ua U.a.g;have ae:=U.a.b;rw[emit_len,aa]at ae;have af:=ua ae.q;have aq:=ua aa;have HK:=ua hK;have HR:=ua hR;have aj:W.heap.size≠K.b:=oH V.lt;generalize hX:W.alloc (Oc #[Iv 6,Sl sa o.sl sc,Iv o.f] 185)=X;have B:=ua (hX▸um W #[Iv 6,Sl sa o.sl sc,Iv o.f] 185);have KX:Hid (Kf W X):=hX▸zY;have TK:Hid (∀P',_->_->Cs 78 #[.pointer (Sm K.b 0)] X P'):=λP'=>yV (P:=P') hK (V.y KX) he hs ac hq;rw[H]at TK;have az:dv<=1000:=oG hs.c hK.m1;have ay:0<=dv:=oM;have HD:=ua ai;have am:=ua ac;have HA:=ua hA;have HM:=ua hm;have IX:=ua (ix bb off c (p+1) k · (dv+1) nv · · · · ad.symm al.2.2 oM oM i HL);have ao:=ua ak;have ax:=V.lt;have a5:=V.q.size;clear hR av ak ac hs he V al U t G e H ai hA hm ix i ad ae aa;go_enter func136,ntmps136;let⟨z,p',lz⟩:=B.x;go_wp2_with fail;clear z p' lz;refine TK _ (λW1 w1 k1 e1 R l1=>?_) (λW1 w1 k1=>?_)
 rotate_left
 .go_wp2;exact zL (by simp[results,f136,go_sem]) rfl (HR.b (s.c:Int) _ w1 ((vv KX).c k1))
 let⟨z,p',lz⟩:=(He k1 B aj).x;have ab:=ua k1;have HE:Hid (K.E (({ s.g with f:=s.f+1 }:zC).m ⟨0,((p+N+2:Nat):Int),s.c,s.a.length⟩ K.a)):=e1;have HG:Hid (K.Sg { s.g with f:=s.f+1 }):=⟨R.e,R.thr,R.a,R.st,R.c⟩;have HW:Hid (K.Wd A { s.g with f:=s.f+1 } W1):=w1.d rfl rfl rfl rfl;clear e1 R w1 k1 TK;go_wp2_with fail;refine Tz HK.o (by rw[HD.o];rfl) HW.o HG.o (λW2 w2 k2 l2=>?_) (λW2 T h2 k2=>?_)
 rotate_left
 .have h3:=h2 (Ends.d (by have:=HE.o;rw[T]at this;exact this) rfl);go_wp2;exact zL (by simp[results,f136,go_sem]) rfl (HR.o.b (s.c:Int) _ h3 (((vv KX.o).c ab.o).c k2))
 let⟨z,p',lz⟩:=(He (ab.c k2) B aj).x;have an:=ua (((vv KX).c ab).c k2);replace HE:=ua (qF ⟨0,((p+N+2:Nat):Int),s.c,s.a.length⟩ l2▸HE.o);have ap:=ua w2;have a0:=l1;clear w2 k2;go_wp2;go_loopw [25,2] (λv u wr=>QG K A s W p N v u wr) (λ_ _ wr=>K.d.toNat-FN K wr)
 .exact⟨{ s.g with f:=s.f+1,st:=s.st++[⟨0,((p+N+2:Nat):Int),s.c,s.a.length⟩] },[],λ_=>False,none,0,0,rfl,rfl,rfl,by simp[zC.g],by show s.f+1=_;rw[am.o];rfl,HE,⟨HG.e,HG.thr,HG.a,HG.st,by have h:(s.st.length:Int)<K.a:=l2;show((s.st++[_]).length:Int)<=_;rw[zJ,Dd];omega⟩,(ap.h (λx q=>q.elim id False.elim)).d rfl rfl rfl rfl,QD,an,zD,.nil zD⟩
 obtain⟨J,L,Z,a,n,c',rfl,rfl,i1,i2,i3,hE,hG,hW,H,G,hs,hn⟩:=hrel;have RW:=ua H;have ag:=ua hn;have KW:=ua G;have SG:=ua hG;have hB:Hid (∀x,Z x->K.w0.heap.size<=x/\x≠K.b):=λx i=>by have:=(H.a x i).1;exact⟨oM,oM⟩
 have ah:∀x,A x\/Z x->x<wr.heap.size:=λx i=>i.elim (λq=>Ba (HA x q) G.l) (λq=>(H.a x q).2);have C:=ua (IX.o (J.c:Int) (λx=>A x\/Z x) J wr · i3 rfl (by rw[i1,HD.o];simp) (by unfold zC.j at *;rw[ao.o,i1,FO];simp) hE hG hW ah (oH HM.o));have MS:=ua (QH hW);have a3:=hG.st;clear hE hW H G hG ah;go_wp2_with fail;refine C _ ⟨λs' L' B2 a' n' c2 W3 f D r w=>?_,λs' z3 W3 f D w=>?_,λz3 W3 D w=>?_⟩
 .have F:=ua f;have a1:L.length+L'.length<=50000:=by
   have T:=f.sg.a;have h2:=f.sg.st;have h3:=HK.f1;rw[f.a,i2,zJ,zJ]at T;omega
  have R1:=ua (RW.y w (λx i t=>(hB x t).2 i));have R2:=ua r;have W3':=ua D;have K3:=ua (KW.c w);have hz:=K3.l;have i4:=f.st.trans i1;unfold yU;clear f D r w;go_wp2_with (at_builtin;refine Zf rfl _ _ rfl rfl rfl R1 R2 oM hz ?_;intro W4 a4 n4 c4 R4 Q);have w4:=W3'.f (C:=λx=>A x\/(Z x\/W3.heap.size<=x)/\x<W4.heap.size) Q (λx i=>.inl (.inr i)) hB (λx i=>i.elim (λq=>.inl (.inl (.inl q))) (λq=>q.1.elim (λq=>.inl (.inl (.inr q))) .inr));have k4:K.Kp W W4:=⟨Q.os.trans K3.os,Q.g.trans K3.g,Q.f.trans K3.f,zP hz Q.l,λx i t=>(Q.d x oM (λq=>oH ((R1.a x q).1))).trans (K3.d x i t)⟩;have q1:=F.f;rw[aq.o]at q1;refine yV HK w4 F.e F.sg q1 af.1 (λW5 Y k5 e5 S l5=>?_) (λW5 Y k5=>?_)
  .rw[af.o.2,X9 (s:=s'.g) i4 rfl K.il K.I l2]at e5;have HJ:Hid (QG K A s W p N (Sl a4 n4 c4) (Iv s'.c) W5):=⟨{ s'.g with f:=((p+1:Nat):Int),st:=s.st++[⟨0,((p+N+2:Nat):Int),s'.c,s'.a.length⟩] },L++L',_,a4,n4,c4,rfl,rfl,rfl,by show s'.a=_;rw[F.o.a,i2,Ce],rfl,e5,⟨S.e,S.thr,S.a,S.st,by have:=S.c;rw[show s'.g.st=_ from i4]at this;simpa using this⟩,Y.d rfl rfl rfl rfl,R4.y k5 (λx i t=>by have:=(R4.a x t).1;have i:x=K.b:=i;omega),k4.c k5,by have:=F.p;show s.b+1<=s'.b+1;omega,ag.app F.b⟩;have M5:=ua (QH Y);have a2:=F.p;clear w4 Y e5 S k4;go_wp2;go_roundw
   .exact HJ
   rw[M5.o,MS.o];show K.d.toNat-(s'.b+1)<_;omega
  have O:=ua (HR.b (s'.c:Int) _ Y (k4.c k5));clear w4 Y k4;go_wp2;exact zL (by simp[results,f136,go_sem]) rfl O
 .let⟨s2,T,h2,h3,h4,h5,h6,h7,_,h8⟩:=f.to (s:={ J with st:=s.st }) (f:=⟨0,((p+N+2:Nat):Int),J.c,J.a.length⟩) i1 (by show(0:Int)≠2;decide) rfl rfl rfl zD;have O:=ua (HR.ok s2 L Z a n c' W3 ⟨h3,by rw[h6,<-Gy],by rw[h4];exact i2,T,h2,by have:J.b<=s2.b:=h7;omega,h5▸ag.o⟩ (h8 _ _ D) (RW.y w (λx i t=>(hB x t).2 i)) (KW.c w));have h5':=h5;rw[h5']at O;unfold yU;clear f D w T h2 h3 h4 h5 h5' h6 h7 h8;go_wp2;exact zL (by simp[results,f136,go_sem]) rfl O
 have O:=ua (HR.b (J.c:Int) _ D (KW.c w));unfold yU;clear D w;go_wp2;exact zL (by simp[results,f136,go_sem]) rfl O
end
section
open M (OpD ug Gr uw EX ins uT emit_len)
variable {K:EC} {m:Nat}
def W8(hK:K.Ok)(o:OpD)(hk:o.e=4)(x y:TR)(ix:K.e m x)(iy:K.e m y):K.e m (.bn o x y):=by
 intro bb off c p l pv dv nv A s W P hl aa hc hn hT S af ai ab ae he hs hw hA hm hR;have HT:=ua hT;have HO:=ua aa;simp only[TR.n]at hc hn hl;subst ai;obtain⟨i,hy,Q,⟨sa,sc,c1,aj⟩,Z⟩:=hT;have t:=hw.q;replace Q:=ue Q t;replace c1:=ue c1 t;replace Z:=ue Z t;let⟨k,ac⟩:=nm (x.n+y.n);have ag:=ua ac;have nx:=x.n0;have ny:=y.n0;rw[ac]at Q c1 Z hc hn hl;subst hl;let⟨j,T⟩:=nm x.n;have HJ:=ua T;rw[T]at nx ac;have x2:((k+1:Nat):Int)-1=(k:Int):=oM;have x3:(k:Int)<((k+1:Nat):Int):=oM;have z6:=uB k oM;have f1:k<c:=oM;have f2:k<=c:=oM;have f3:¬c=0:=oM;have z7:=uB j oM;have jm:(j:Int)<(k:Int):=oM;have ao:(j:Int)<=(k:Int):=oM;have f4:¬c=j:=oM;have f5:j<=k:=oM;have f6:j<=c:=oM;rw[hk]at Q;have ak:=ud Q;have e:(TR.bn o x y).a (M.bA K.g.nr)=.seq (x.a (M.bA K.g.nr)) (y.a (M.bA K.g.nr)):=by simp[TR.a,M.bA,hk]
 rw[e]at hR S;simp only[uT,EX.c]at hR S;have ad:=S.b;rw[emit_len]at ad;have HK:=ua hK;have O:=ua hR;have al:=hw.lt;have an:=t.size;generalize hX:W.alloc (Oc #[Iv 4,Sl sa o.sl sc,Iv o.f] 185)=X;have B:=ua (hX▸um W #[Iv 4,Sl sa o.sl sc,Iv o.f] 185);have u:Hid (Kf W X):=hX▸zY;have L2:=ua (yM (w:=X) (c:=c) (HT.h (uf t u.q)) HO ag oM);have IX:=ua (ix bb off c p j (s.c:Int) dv nv A s X · T.symm aa.2.2.1 oM oM i S.g af rfl ab ae he hs (hw.y u) (λx i=>Ba (hA x i) u.l) hm);have IY:=ua (iy bb (off+j*3) (c-j) (p+(x.a (M.bA K.g.nr)).c) (k-j) · dv nv · · · · oM aa.2.2.2 oM oM (T▸hy) ad);have HD:=ua ab;have ah:=ua ae;have HA:=ua hA;have HM:=ua hm;clear hR aj ae af hs he hw aa S t hk e ab hA hm ix iy i hy ad T;go_enter func136,ntmps136;let⟨z,p',lz⟩:=B.x;go_wp2_with fail;refine L2.mono ?_;rintro e W0 ⟨rfl,h0⟩;subst h0;rw[HJ.o];go_wp2_with fail;clear z p' lz;refine IX _ ⟨λs' L B1 a n c' Y f E r D=>?_,λs' z3 Y f E D=>?_,λz3 Y E D=>?_⟩
 .have F:=ua f;have R1:=ua r;have U:=ua ((vv u).c D);have hB:Hid (∀x,B1 x->K.w0.heap.size<=x/\x≠K.b):=λx i=>by have R:=(r.a x i).1;have h2:=u.l;exact⟨oM,oM⟩
  have C:=ua (IY.o (s'.c:Int) (λx=>A x\/B1 x) s' Y · f.f rfl (by rw[f.st];exact HD.o) (by unfold zC.j at *;rw[f.st];exact ah.o) f.e f.sg E (λx i=>i.elim (λq=>Ba (HA.o x q) U.o.l) (λq=>(r.a x q).2)) (oG f.p HM.o));unfold yU;clear f E r D;go_wp2_with fail;refine C _ ⟨λs2 V B2 a2 n2 Z W4 f G r v=>?_,λs2 z4 W4 f G v=>?_,λz4 W4 G v=>?_⟩
  .have am:L.length+V.length<=50000:=by
    have R:=f.sg.a;have h2:=f.sg.st;have h3:=HK.f1;rw[f.a,F.o.a,zJ,zJ]at R;omega
   have R2:=ua (R1.y v (λx i t=>(hB x t).2 i));have J:=ua (U.c v);have hz:=J.l;have H:=ua f;have R3:=ua r;have W4':=ua G;unfold yU;clear f G r v;go_wp2_with (at_builtin;refine Zf rfl _ _ rfl rfl rfl (R2.b u.l) R3 oM hz ?_;intro W5 a5 n5 c5 R5 N);refine zL (by simp[results,f136,go_sem]) rfl (O.ok s2 (L++V) _ a5 n5 c5 W5 ⟨H.st.trans F.st,by rw[H.o.f,Gy],by rw[H.o.a,F.o.a,Ce],H.e,H.sg,zP F.p H.p,F.b.app H.b⟩ (W4'.f N (λx i=>.inl (.inr i)) hB (λx i=>i.elim (λq=>.inl (.inl (.inl q))) (λq=>q.1.elim (λq=>.inl (.inl (.inr q))) .inr))) R5 ?_);exact⟨N.os.trans J.os,N.g.trans J.g,N.f.trans J.f,zP J.l N.l,λx i t=>(N.d x (Ba i J.l) (λq=>oG ((R1.a x q).1) u.l)).trans (J.d x i t)⟩
  .let⟨F',e1,R⟩:=f.st;let⟨V,e2⟩:=f.a;have I:=ua (O.h s2 (s.c:Int) W4 ⟨⟨F',by rw[e1,F.o.st],R⟩,⟨L++V,by rw[e2,F.o.a,Ce]⟩,f.e,f.sg,zP F.p f.p⟩ (G.h (λ_=>.inl)) (U.c v));unfold yU;clear f G v e1 R e2;go_wp2;exact zL (by simp[results,f136,go_sem]) rfl I
  have I:=ua (O.b (s.c:Int) _ G (U.c v));unfold yU;clear G v;go_wp2;exact zL (by simp[results,f136,go_sem]) rfl I
 .have I:=ua (O.h s' (s.c:Int) Y f E ((vv u).c D));unfold yU;clear f E D;go_wp2;exact zL (by simp[results,f136,go_sem]) rfl I
 have I:=ua (O.b (s.c:Int) _ E ((vv u).c D));unfold yU;clear E D;go_wp2;exact zL (by simp[results,f136,go_sem]) rfl I
def EC.h.of{K:EC}{A:Np}{s d}{q:Nat}{W}{P:Ew}(h:K.h A s q W P)(g:d.st=s.st)(i:d.a=s.a)(j:s.b<=d.b)(k:d.c=s.c):K.h A d q W P :=
 ⟨λs' L B a n c W' f=>h.ok s' L B a n c W' ⟨f.st.trans g,f.f,by rw[f.a,i],f.e,f.sg,zP j f.p,k▸f.b⟩,λs' z W' f=>h.h s' z W' ⟨by rw[<-g];exact f.st,by rw[<-i];exact f.a,f.e,f.sg,zP j f.p⟩,h.b⟩
def W6{s:zC}{l:List Cf}{f:Cf}(h:s.st=l++[f])(b:f.e=0)(il:Nat)(I:Nat->Int){mO z:Int}:s.q (ins 2 0 z) il I mO={ s with f:=z,st:=l }:=by
 have c:s.v 0=true:=by unfold zC.v;rw[h,Tf];simp[b]
 have a:s.st.dropLast=l:=by simp[h]
 unfold zC.q;simp[ins,c,zC.u,a]
def W9(hK:K.Ok)(o:OpD)(hk:o.e=5)(x y:TR)(ix:K.e m x)(iy:K.e m y):K.e m (.bn o x y):=by
 intro bb off c p l pv dv nv A s W P hl ab hc hn hT I ae ax am ao he hs hw hA hm hR;have HT:=ua hT;have HO:=ua ab;simp only[TR.n]at hc hn hl;subst ax;obtain⟨v,hy,S,⟨sa,sc,c1,ay⟩,c2⟩:=hT;have J:=hw.q;replace S:=ue S J;replace c1:=ue c1 J;replace c2:=ue c2 J;let⟨k,af⟩:=nm (x.n+y.n);have aq:=ua af;have nx:=x.n0;have ny:=y.n0;rw[af]at S c1 c2 hc hn hl;subst hl;let⟨j,U⟩:=nm x.n;have HJ:=ua U;rw[U]at nx af;have x2:((k+1:Nat):Int)-1=(k:Int):=oM;have x3:(k:Int)<((k+1:Nat):Int):=oM;have z6:=uB k oM;have f1:k<c:=oM;have f2:k<=c:=oM;have f3:¬c=0:=oM;have z7:=uB j oM;have jm:(j:Int)<(k:Int):=oM;have a4:(j:Int)<=(k:Int):=oM;have f4:¬c=j:=oM;have f5:j<=k:=oM;have f6:j<=c:=oM;rw[hk]at S;have az:=ud S;have e:(TR.bn o x y).a (M.bA K.g.nr)=.alt (x.a (M.bA K.g.nr)) (y.a (M.bA K.g.nr)):=by simp[TR.a,M.bA,hk]
 rw[e]at hR I;let⟨i,ac⟩:=nm (x.a (M.bA K.g.nr)).c;let⟨yl,ah⟩:=nm (y.a (M.bA K.g.nr)).c;simp only[uT,EX.c,ac,ah]at hR I;let⟨hq,hr⟩:=I.q;have HL:=ua I.a.g;have aa:=I.a.b;rw[emit_len,ac]at aa;have ai:=ua aa.q;have ag:=aa.a;rw[show p+1+i+1=p+i+2 by omega]at ag;have av:=ua ac;have aw:=ua ah;have HK:=ua hK;have D:=ua hR;have an:W.heap.size≠K.b:=oH hw.lt;generalize hX:W.alloc (Oc #[Iv 5,Sl sa o.sl sc,Iv o.f] 185)=X;have B:=ua (hX▸um W #[Iv 5,Sl sa o.sl sc,Iv o.f] 185);have KX:Hid (Kf W X):=hX▸zY;have G:Hid (∀R,_->_->Cs 78 #[.pointer (Sm K.b 0)] X R):=λR=>yV (P:=R) hK (hw.y KX) he hs ae hq;rw[hr]at G;have a1:dv<=1000:=oG hs.c hK.m1;have a0:0<=dv:=oM;have HD:=ua am;have aj:=ua ao;have ap:=ua ae;have HA:=ua hA;have HM:=ua hm;have IX:=ua (ix bb off c (p+1) j · (dv+1) nv A · · · U.symm ab.2.2.1 oM oM v HL);have IY:=ua (iy bb (off+j*3) (c-j) (p+i+2) (k-j) · dv nv A · · · oM ab.2.2.2 oM oM (U▸hy) ag);clear hR ay ao ae hs he hw ab I J hk e hr am hA hm ix iy v hy aa ag ac ah U;go_enter func136,ntmps136;let⟨z,p',lz⟩:=B.x;go_wp2_with fail;clear z p' lz;refine G _ (λW1 w1 V e1 H l1=>?_) (λW1 w1 V=>?_)
 rotate_left
 .go_wp2;exact zL (by simp[results,f136,go_sem]) rfl (D.b (s.c:Int) _ w1 ((vv KX).c V))
 let⟨z,p',lz⟩:=(He V B an).x;have ad:=ua V;have HE:Hid (K.E (({ s.g with f:=s.f+1 }:zC).m ⟨0,((p+i+2:Nat):Int),s.c,s.a.length⟩ K.a)):=e1;have O:Hid (K.Sg { s.g with f:=s.f+1 }):=⟨H.e,H.thr,H.a,H.st,H.c⟩;have HW:Hid (K.Wd A { s.g with f:=s.f+1 } W1):=w1.d rfl rfl rfl rfl;clear e1 H w1 V G;go_wp2_with fail;refine Tz HK.o (by rw[HD.o];rfl) HW.o O.o (λW2 w2 k2 l2=>?_) (λW2 h1 h2 k2=>?_)
 rotate_left
 .have T:=h2 (Ends.d (by have:=HE.o;rw[h1]at this;exact this) rfl);go_wp2;exact zL (by simp[results,f136,go_sem]) rfl (D.o.b (s.c:Int) _ T (((vv KX.o).c ad.o).c k2))
 let⟨z,p',lz⟩:=(He (ad.c k2) B an).x;have Q:=ua (((vv KX).c ad).c k2);replace HE:=ua (qF ⟨0,((p+i+2:Nat):Int),s.c,s.a.length⟩ l2▸HE.o);have ak:=ua w2;have a3:=l1;have L2:=ua (yM (w:=W2) (c:=c) (HT.h w2.q) HO aq oM);go_wp2_with fail;refine L2.mono ?_;rintro e W0 ⟨rfl,h0⟩;subst h0;rw[HJ.o];go_wp2_with fail;let⟨Y,t⟩:=nm ({ s.g with f:=s.f+1,st:=s.st++[⟨0,((p+i+2:Nat):Int),s.c,s.a.length⟩] }:zC);have i1:Y.st=s.st++[⟨0,((p+i+2:Nat):Int),s.c,s.a.length⟩]:=t▸rfl;have i2:Y.a=s.a:=t▸rfl;have i3:Y.b=s.b+1:=t▸rfl;have i6:Y.c=s.c:=t▸rfl;have al:Hid (∀x,A x->x<W2.heap.size):=λy hy=>Ba (HA y hy) Q.l;refine IX _ Y W2 _ ?_ (t▸rfl) ?_ ?_ ?_ ?_ (t▸ak.d rfl rfl rfl rfl) al ?_ ⟨λs' L B' a n c' W3 f Z r N=>?_,λs' z3 W3 f Z N=>?_,λz3 W3 Z N=>?_⟩
 .rw[<-t];show s.f+1=_;rw[ap.o];rfl
 .rw[i1,HD.o];simp
 .unfold zC.j at *;rw[aj.o,i1,FO];simp
 .exact t▸HE.o
 .exact t▸⟨O.e,O.thr,O.a,O.st,by have h:(s.st.length:Int)<K.a:=l2;show((s.st++[_]).length:Int)<=_;rw[zJ,Dd];omega⟩
 .rw[i3];have:=HM.o;omega
 .have K4:=ua (Q.c N);have F:=ua f;have i4:=f.st.trans i1;have q1:=f.f;rw[av.o]at q1;have G:=ua (λR=>yV (P:=R) HK Z f.e f.sg q1 ai.1);rw[ai.o.2]at G;have R1:=ua r;unfold yU;go_wp2_with fail;refine G _ (λW4 w4 k5 e4 g4 l4=>?_) (λW4 w4 k5=>?_)
  .rw[W6 (s:=s'.g) i4 rfl]at e4;have u:=ua (D.ok { s'.g with f:=((p+i+yl+2:Nat):Int),st:=s.st } L B' a n c' W4 ⟨rfl,by show((p+i+yl+2:Nat):Int)=_;simp only[Int.natCast_inj];omega,by show s'.a=_;rw[F.o.a,i2],e4,⟨g4.e,g4.thr,g4.a,g4.st,by have:=g4.c;rw[show s'.g.st=_ from i4]at this;simp at this;show(s.st.length:Int)<=_;omega⟩,by have:=F.p;show s.b<=s'.b+1;omega,i6▸F.b⟩ (w4.d rfl rfl rfl rfl) ((R1.b Q.l).y k5 (λx v J=>by have:=(R1.a x J).1;have:=ak.lt;have v:x=K.b:=v;omega)) (K4.c k5));go_wp2;exact zL (by simp[results,f136,go_sem];rfl) rfl u
  have u:=ua (D.b (s.c:Int) _ w4 (K4.c k5));go_wp2;exact zL (by simp[results,f136,go_sem]) rfl u
 .let⟨s2,h1,h2,T,h4,h5,h6,h7,_,h8⟩:=f.to (s:=s) i1 (by show(0:Int)≠2;decide) rfl i2 rfl oM;have h5':s2.c=s.c:=h5;have C:=ua (IY.o (s.c:Int) s2 W3 (Zg P) h6 (by rw[h5']) (by rw[T];exact HD.o) (by unfold zC.j at *;rw[T];exact aj.o) h1 h2 (h8 _ _ Z) (λx v=>Ba (al.o x v) N.l) (oH HM.o) (by have:=(((D.o.of T h4 h7 h5').e (Q.o.c N)).d);rw[aw.o,show p+i+2+yl=p+(i+yl+2) by omega];exact this));unfold yU;go_wp2_with fail;refine C.mono ?_;rintro e W4 ⟨h,z2,a2,n2,c2,rfl,u⟩;have au:=ua u;unfold yU;go_wp2;exact zL (by simp[results,f136,go_sem]) rfl au
 have u:=ua (λz=>D.b z _ Z (Q.c N));unfold yU;go_wp2;exact zL (by simp[results,f136,go_sem]) rfl (u z3)
end
section
open M (OpD ug Gr uw EX ins uT emit_len)
variable {K:EC} {m:Nat}
def Y1(L:K.Ok)(hN:∀j,j<m->K.l j)(o:OpD)(G:o.e=3):K.e m (.lf o):=by
 intro bb off c p l pv J nv A s W P hl ak hc hn hT hL ag a0 ah ap he U hw hA hm hR;simp only[TR.n]at hc hn hl;subst hl a0;obtain⟨c0,⟨sa,sc,c1,a1⟩,c2⟩:=hT;have hb:=hw.q;replace c0:=ue c0 hb;replace c1:=ue c1 hb;replace c2:=ue c2 hb;let⟨j,N⟩:=qp ak.2;have h6:=ak.2.2.2.2.2.2;unfold M.bF at h6;rw[Zp G,N]at h6;have ao:j<K.g.nb:=oM;let⟨t,ad⟩:=nm (K.g.nr+j);have ab:=ua ad;have hr:=L.a.r2;have a8:=L.a.l2;have TG:=ua (λw=>ZV K.ra K.la sa K.g.nr K.rc K.g.nb K.lc sc o w (.inr G) G N oM oM oM);have aq:M.tg K.g.nr o=t:=by unfold M.tg;rw[Zp G,N];exact ad
 rw[aq]at TG;have e:(TR.lf o).a (M.bA K.g.nr)=.thr j t:=by simp[TR.a,M.bA,G,N,ad]
 rw[G]at c0;rw[N]at c2;have f1:=hc;have f3:¬c=0:=oM;have a3:=ud c0;rw[e]at hR hL;let⟨hq,hr⟩:=Cr.q hL;have u:=ua L;have R:=ua hR;have aj:W.heap.size≠K.b:=oH hw.lt;generalize hX:W.alloc (Oc #[Iv 3,Sl sa o.sl sc,Iv j] 185)=X;have B:=ua (hX▸um W #[Iv 3,Sl sa o.sl sc,Iv j] 185);have S:Hid (Kf W X):=hX▸zY;have TK:Hid (∀P',_->_->Cs 78 #[.pointer (Sm K.b 0)] X P'):=λP'=>yV (P:=P') L (hw.y S) he U ag hq;rw[hr]at TK;have a5:J<=1000:=oG U.c L.m1;have a4:0<=J:=oM;have bc:IntKind.i64.wrap (J+1)=J+1:=by rw[ah];exact uB (s.st.length+1) oM
 have HD:=ua ah;have ae:=ua ap;have av:=ua ag;have HA:=ua hA;have HM:=ua hm;have HN:=ua hN;have ba:=U.thr;have a9:=U.st;have a6:=L.f1;clear hR a1 ap ag U he hw ak hL hb G e hr ah hA hm hN N aq ad;go_enter func136,ntmps136;let⟨z,p',lz⟩:=B.x;go_wp2_with fail;clear z p' lz;refine TK _ (λW1 w1 Q e1 F l1=>?_) (λW1 w1 Q=>?_)
 rotate_left
 .go_wp2;exact zL (by simp[results,f136,go_sem]) rfl (R.b (s.c:Int) _ w1 ((vv S).c Q))
 have aa:=ua Q;have r:K.E (if s.g.j then s.g.h else if Ee K.g t<0 then ({ s.g with d:=s.d+1,s:=(j:Int) }:zC).l 2 else ({ s.g with d:=s.d+1,f:=Ee K.g t }:zC).m ⟨2,s.f+1,0,0⟩ K.a):=e1;let⟨z,p',lz⟩:=(He Q B aj).x;cases nv with
 |true =>
  rw[show s.g.j=true from ae.o.symm]at r;have D:=ua r;clear r e1;go_wp2;exact zL (by simp[results,f136,go_sem]) rfl (R.h s.g (s.c:Int) _ (.of D F rfl rfl (Gx _)) w1 ((vv S).c Q))
 |false =>
 rw[show s.g.j=false from ae.o.symm]at r;simp only[Nh,if_false]at r;rw[Ux,<-ab.o]at r;have ac:=X7 u.a ao;rcases u.j.e with h0|⟨au,be,ai,az,af⟩
 .omega
 have I:=(af j ao).1.j;obtain⟨xa,xn,xc,cd,lb,ps,Z⟩:=w1;replace I:=ue I Z.q;have bd:=ud I;have T:=ua (Z.set (s':={ s.g with d:=s.d+1 }) (o:=8) (v:=Iv ((s.d:Int)+1)) u rfl rfl);let⟨y,py,ly⟩:=Z.e.x;have ay:au≠K.b:=oG u.b (u.q au az);simp only[EC.wd,zC.g,ai]at y;have G1:=ua F;by_cases O:0<(nd K.g (K.g.nr+j)).bl
 rotate_left
 .rw[Ix O]at ac;rw[ac]at I;rw[Zn O]at r;have HT:=ua (Ends.d r rfl);clear r e1 Z af;go_upto_region 29 with fail;go_region;go_wp2;have ST:Hid (K.k ((((W1.setCell (Ad K.b 8) (Iv ((s.d:Int)+1))).setCell (Ad K.b 9) (Iv 2)).setCell (Ad K.b 10) (Iv j)).setCell (Ad K.b 11) (Iv s.c)).drew) :=
   ⟨{ s.g with d:=s.d+1 },xa,xn,xc,j,s.c,by rw[HT.o];exact((((T.set (s':={ s.g with d:=s.d+1 }) (cd':=2) u rfl rfl).set (s':={ s.g with d:=s.d+1 }) (lb':=(j:Int)) u rfl rfl).set (s':={ s.g with d:=s.d+1 }) (ps':=(s.c:Int)) u rfl rfl).y Cj).h (λ_ q=>q.elim),.inr (by rw[HT.o];exact⟨rfl,rfl,rfl,rfl,rfl,rfl,Int.natCast_nonneg _,oM⟩)⟩
  exact zL (by simp[results,f136,go_sem]) rfl (R.b (s.c:Int) _ ST ((((((((vv S).c aa).c (EC.c _ _)).c (EC.c _ _)).c (EC.c _ _)).c (EC.c _ _)).c Cj)))
 rw[Ke O]at ac;rw[ac]at I;rw[Zp O,Zn oM]at r;generalize hV:W1.setCell (Ad K.b 8) (Iv ((s.d:Int)+1))=V at T;have C:K.Kp W1 V:=hV▸EC.c _ _;have am:=ua ((((vv S).c aa).c C).c Cj);have aw:=ua ((aa.c C).c (zA.i (λx=>x=K.b) _));let⟨y',bh,bf⟩:=T.e.x;simp only[EC.wd,zC.g,ai]at y';let⟨z',q',bg⟩:=(He (aa.c C) B aj).x;have ch':=hV▸un0 ay I;have D:Hid (K.E (({ s.g with d:=s.d+1,f:=Ee K.g t }:zC).m ⟨2,s.f+1,0,0⟩ K.a)):=by rw[Ux,<-ab.o,Zp O];exact r
 have H:Hid (K.Sg { s.g with d:=s.d+1,f:=Ee K.g t }):=⟨F.e,by show s.d+1<=s.b+1;omega,F.a,F.st,F.c⟩;have HW:Hid (K.Wd A { s.g with d:=s.d+1,f:=Ee K.g t } V.drew):=EC.Wd.d (s:={ s.g with d:=s.d+1 }) ⟨_,_,_,_,_,_,T.y Cj⟩ rfl rfl rfl rfl;clear e1 F Q TK r Z af T G1 C;go_upto_region 29 with fail;go_region;go_wp2_with fail;refine Tz u.o (by rw[HD.o];rfl) HW.o H.o (λW2 Y k2 l2=>?_) (λW2 h1 h2 k2=>?_)
 rotate_left
 .have h3:=h2 (Ends.d (by have:=D.o;rw[h1]at this;exact this) rfl);go_wp2;exact zL (by simp[results,f136,go_sem]) rfl (R.o.b (s.c:Int) _ h3 (am.o.c k2))
 let⟨z,p',lz⟩:=(He (aw.o.c k2) B aj).x;have al:=ua (am.o.c k2);replace D:=ua (qF ⟨2,s.f+1,0,0⟩ l2▸D.o);have ND:Hid (∀V,Kf W2 V->Cs 80 #[.pointer (Sm K.b 0),Iv t,Iv s.c,Iv (J+1),Bf] V (Zg P)):=λV C=>by
  have a7:=l1;refine HN.o (m-1) (oH HM.o) t (p+1) _ _ _ _ A s { s.g with d:=s.d+1,f:=Ee K.g t,st:=s.st++[⟨2,((p+1:Nat):Int),0,0⟩] } V _ (oH ab.o) (ab.o▸O) rfl rfl rfl ⟨rfl,rfl⟩ (Gx _) rfl ?_ ?_ ?_ ?_ ((Y.y C).d rfl rfl rfl rfl) (λx hx=>Ba (HA.o x hx) (al.o.c (vv C)).l) ?_ (R.o.e (al.o.c (vv C))).d
  .rw[HD.o];simp
  .rw[ae.o];simp[zC.j]
  .have:=D;rw[av.o]at this;exact this
  .exact⟨H.o.e,H.o.thr,H.o.a,H.st,by have:=l2;simp;exact this⟩
  show(K.d-((s.b+1:Nat):Int)).toNat<=m-1;have:=HM.o;omega
 obtain⟨xa,xn,xc,cd,lb,ps,Y⟩:=Y;let⟨y,py,ly⟩:=Y.e.x;simp only[EC.wd]at y;clear Y D H HW;go_upto_region 37 with fail;go_region_law (first
  |(refine uF KD rfl #[.tmp 214,.tmp 215] #[34,185] rfl (ys:=#[.agg #[Sl K.ra K.g.nr K.rc,Sl K.la K.g.nb K.lc],.agg #[Iv 3,Sl sa o.sl sc,Iv (j:Int)]]) (by simp[Act.eval,ai]) ((TG.o _).mono ?_);rintro e W3 ⟨rfl,an⟩;have K3:Hid (Kf W2 W3):=Cj.c (zA.j an (λ_ q _=>q));clear an;refine⟨_,rfl,?_⟩)
  |(refine uF QF rfl #[.tmp 210,.tmp 216,.tmp 217,.tmp 219,.tmp 220] #[152,3,3,3,4] rfl (ys:=#[.pointer (Sm K.b 0),Iv (t:Int),Iv (s.c:Int),Iv (J+1),Bf]) (by simp[Act.eval]) ((ND.o _ K3.o).mono ?_);rintro e W4 ⟨h,z2,a2,n2,c2,rfl,HP⟩;have ax:=ua HP;clear HP;unfold yU;refine⟨_,rfl,?_⟩))
 all_goals go_wp2
 all_goals exact zL (by simp[results,f136,go_sem]) rfl ax
end
section
open M (OpD ug Gr uw EX ins uT emit_len nodeC)
variable {K:EC} {m:Nat}
def X3(i:K.Ok)(t:∀j,j<m->K.l j)(T:TR):K.e m T:=by
 induction T with
 |lf o =>
  intro b off c p l h d g A s W P f a;have k:o.e=0\/o.e=1\/o.e=2\/o.e=3:=by have:=a.2.1;have:=a.2.2.1;have r:=a.1;unfold M.ar at r;split at r<;>(try split at r)<;>omega
  rcases k with q|q|q|q
  .exact X0 i o q b off c p l h d g A s W P f a
  .exact X1 i o q b off c p l h d g A s W P f a
  .exact X8 i t o q b off c p l h d g A s W P f a
  exact Y1 i t o q b off c p l h d g A s W P f a
 |un o x n =>
  intro b off c p l h d g A s W P f a;have k:o.e=6\/o.e=7:=by have:=a.1;unfold M.ar at this;split at this<;>(try split at this)<;>omega
  rcases k with q|q
  .exact Y0 i o q x n b off c p l h d g A s W P f a
  exact Y3 i o q x n b off c p l h d g A s W P f a
 |bn o x y n u =>
  intro b off c p l h d g A s W P f a;have k:o.e=4\/o.e=5:=by have:=a.1;unfold M.ar at this;split at this<;>(try split at this)<;>omega
  rcases k with q|q
  .exact W8 i o q x y n u b off c p l h d g A s W P f a
  exact W9 i o q x y n u b off c p l h d g A s W P f a
structure EC.Pg(K:EC):Prop where
 c:Cr K.n K.R 0 [ins 6 0 (Ee K.g 0),ins 12 0 0]
 a:∀k,k<K.g.nr+K.g.nb->0<(nd K.g k).bl->Cr K.n K.R (PL K.g k) (nodeC (Ee K.g) (Hl K.g k) (Io K.g k) (PL K.g k))
def X4{s:zC}{l:List Cf}{f:Cf}(h:s.st=l++[f])(c:f.e=2)(il:Nat)(I:Nat->Int){mO:Int}:s.q (ins 7 0 0) il I mO={ s with f:=f.to,st:=l }:=by
 have d:s.v 2=true:=by unfold zC.v;rw[h,Tf];simp[c]
 have a:Lv s.st=f.to:=by unfold Lv;rw[h,Tf]
 have b:s.st.dropLast=l:=by simp[h]
 unfold zC.q;simp[ins,d,zC.u,b,a]
def X5(hK:K.Ok)(hP:K.Pg)(hE:∀j,j<m->∀T,K.e j T):K.l m:=by
 intro k q kv pv dv nv A s t W P hk aw bf av a0 al bp bi ax ay he hs hw hA hm hR;subst bf bi;rw[Ux,Zp aw]at av;have hL:=hP.a k hk aw;let⟨hq,hr⟩:=Cr.q hL;have ak:=Cr.a hL;have HL:=ua ak.g;have ab:=ak.b;rw[emit_len]at ab;have ae:=ua ab.q;have af:=ua ab.a.q;let⟨E,aj⟩:=nm (if k<K.g.nr then (0:Int) else 1);let⟨u,ai⟩:=nm (if k<K.g.nr then (k:Int) else ((k-K.g.nr:Nat):Int));have ha:∀s:zC,s.q (Hl K.g k) K.il K.I K.a=s.n E u:=λs=>by
  rw[<-aj,<-ai];unfold Hl;by_cases h:k<K.g.nr
  .rw[Zp h,Zp h,Zp h];rfl
  rw[Zn h,Zn h,Zn h];rfl
 have X:=ua hK;have Y:=ua hR;have bq:=hw.lt;have bh:=hK.a.r2;have bg:=hK.a.l2;obtain⟨xa,xn,xc,cd,lb,ps,U⟩:=hw;have HW:Hid (K.Wd A t W):=⟨xa,xn,xc,cd,lb,ps,U⟩;let⟨y,py,ly⟩:=U.e.x;unfold EC.wd at y;have ap:=ua hk;have ad:=ua aj;have ac:=ua ai;have HA:=ua hA;have a3:=ua ha;have HS:=ua hs;have ao:=ua av;have HE:=ua he;have HD:=ua ax;have bd:=ua ay;have aq:=ua a0;have a9:=ua al.1;have be:=ua al.2;have a8:=ua hE;have HM:=ua hm;have a2:=(je hK.a hk).elim (λq=>oM) id;have bj:=BV hK.a hk;let⟨T,t1,t2,t3,t4⟩:=qT a2;have t5:Io K.g k=T.a (M.bA K.g.nr):=t4 _;rw[t5]at HL ae af;have T1:=ua t1;have T2:=ua t2;have T3:=ua t3;clear U aj ai hR hL ak ab ha hA hs he ax ay a0 al hE hm a2 t1 t2 t3 t4 t5 hP;go_enter func80,ntmps80;go_upto_if 28 with fail;go_cut [] (λwc=>zG wc W.heap.size #[Iv E,Iv u,Iv t.c]/\Kf W wc)
 .by_cases h:k<K.g.nr
  .have h':¬(K.g.nr:Int)<=(k:Int):=oM;obtain rfl:(0:Int)=E:=(by rw[<-ad.o,Zp h]);obtain rfl:(k:Int)=u:=(by rw[<-ac.o,Zp h]);go_wp2;go_meet;exact⟨Eb _,zY⟩
  have h':(K.g.nr:Int)<=(k:Int):=oM;have h2:(k:Int)-(K.g.nr:Int)=((k-K.g.nr:Nat):Int):=oM;obtain rfl:(1:Int)=E:=by rw[<-ad.o,Zn h]
  obtain rfl:((k-K.g.nr:Nat):Int)=u:=by rw[<-ac.o,Zn h]
  go_wp2;go_meet;exact⟨Eb _,zY⟩
 obtain⟨hB,kc⟩:=hcut;have B:=ua hB;have KC:=ua kc;have S:=ua (λP'=>yV (P:=P') X (HW.y kc) HE HS ao hq);rw[hr,a3.o]at S;clear hB kc y py ly;go_wp2_with fail;refine S _ (λW1 w1 k1 e1 g1 l1=>?_) (λW1 w1 k1=>?_)
 rotate_left
 .go_wp2;exact zL (by simp[results,f80,go_sem]) rfl (Y.b (t.c:Int) _ w1 ((vv KC).c k1))
 have am:W.heap.size≠K.b:=oM;have K1:=ua ((vv KC).c k1);have HB:=ua (He k1 B am);let⟨N,G⟩:=nm (t.g.n E u);have E2:=ua (G▸e1);have G2:Hid (K.Sg N):=G▸⟨g1.e,g1.thr,by have:=HS.a;show(t.a++[_]).length<=t.b+1;rw[zJ,Dd];omega,g1.st,g1.c⟩;have i1:N.st=t.st:=G▸rfl;have i2:N.a=s.a++[⟨E,u,t.c⟩]:=by rw[<-G,<-a9.o];rfl
 have i3:N.b=t.b+1:=G▸rfl;have i4:N.c=t.c:=G▸rfl;have i5:N.f=((PL K.g k+1:Nat):Int):=by rw[<-G];show t.f+1=_;rw[ao.o];rfl
 have W2:Hid (K.Wd A N W1):=G▸w1.d rfl rfl rfl rfl;have bn:=l1;clear e1 g1 G S;obtain⟨xa,xn,xc,cd,lb,ps,U⟩:=w1;have C:=ua (qR K.Q K.ra K.la K.rc K.lc K.g W1 (X.j.h U.q) bh bg k ap);let⟨y,py,ly⟩:=U.e.x;unfold EC.wd at y;clear U k1;go_wp2_with fail;refine C.mono ?_;rintro e V ⟨⟨ba,bc,rfl,hO,bk⟩,ah⟩;have KV:Hid (Kf W1 V):=zA.j ah (λ_ q _=>q);have w2:=W2.y KV;have aa:=hO.on (w':=K.w0) (λx J=>(w2.q.block x (X.q x J)).symm);rcases aa with h0|⟨bb,off,rfl,br,aa⟩
 .omega
 have au:TA K.Q K.w0 bb T off:=by have:=Ly (off:=off) (i:=0) T3.o (λj hj=>by rw[Bp];exact aa j (oH T1.o));simpa using this
 have D:=ua (a8.o (m-1) (oH HM.o) T bb off bc (PL K.g k+1) (nd K.g k).bl (t.c:Int) dv nv A N V · T1.o.symm T2.o (oH T1.o) (oH T1.o) au HL.o i5 (by rw[i4]) (by rw[i1];exact HD.o) (by unfold zC.j at *;rw[i1];exact bd.o) E2.o G2.o w2 (λx J=>Ba (HA.o x J) (K1.o.c (vv KV.o)).l) (by rw[i3];have:=HM.o;omega));have KK:=ua (K1.c (vv KV));have a4:=ua (HB.on ah);clear hO aa ah w2 au y py ly;go_wp2_with fail;refine D _ ⟨λs' L B1 a n c' W3 f O r H=>?_,λs' z3 W3 f O H=>?_,λz3 W3 O H=>?_⟩
 .have F:=ua f;have q1:=f.f;have S:=ua (λP'=>yV (P:=P') X (O.h (B:=A) (λ_=>.inl)) f.e f.sg q1 ae.1);rw[ae.o.2]at S;have R1:=ua r;have K3:=ua (KK.c H);have a5:=ua (He H a4 am);have az:=f.sg.a;have bs:=f.sg.st;have bm:=X.f1;unfold yU;clear O f r H q1;go_wp2_with fail;refine S _ (λW4 w4 k4 e4 g4 l4=>?_) (λW4 w4 k4=>?_)
  rotate_left
  .have R:=ua (Y.b (t.c:Int) _ w4 (K3.c k4));clear w4;go_wp2;exact zL (by simp[results,f80,go_sem]) rfl R
  have g5:K.Sg (s'.g.n 2 0):=⟨g4.e,g4.thr,by show(s'.a++[_]).length<=s'.b+1;rw[zJ,Dd];omega,g4.st,g4.c⟩;have ag:=ua (λP'=>yV (P:=P') X (w4.d (s':=s'.g.n 2 0) rfl rfl rfl rfl) e4 g5 (q:=PL K.g k+1+(T.a (M.bA K.g.nr)).c+1) (by show s'.f+1=_;rw[F.o.f];rfl) af.1);rw[af.o.2]at ag;have K4:=ua (K3.c k4);have KB:=ua k4;clear w4 e4 g4 g5 S k4;go_wp2_with fail;refine ag _ (λW5 w5 k5 e5 g5 l5=>?_) (λW5 w5 k5=>?_)
  rotate_left
  .have R:=ua (Y.b (t.c:Int) _ w5 (K4.c k5));clear w5;go_wp2;exact zL (by simp[results,f80,go_sem]) rfl R
  have i6:(s'.g.n 2 0).g.st=s.st++[⟨2,(q:Int),0,0⟩]:=F.st.trans (i1.trans aq);rw[X4 i6 rfl]at e5;have E5:=ua e5;have Z:=ua g5;have W5':=ua w5;have K5:=ua (K4.c k5);have nb:Hid (∀x,x=K.b->¬B1 x):=λx J hb=>oG ((R1.a x hb).1) KK.l;have R5:=ua ((R1.y KB nb).y k5 nb);let⟨z,pz,lz⟩:=(He (KB.c k5) a5 am).x;have bo:L.length<=50000:=by rw[F.o.a,zJ]at az;omega
  have an:=K5.l;have R6:=ua (QE (w0:=W) W5 ⟨E,u,t.c⟩ an);have RA:Hid (∀(w:Wl) (P:Np) (v:Vl) (l:List Cm) (o:Obj),Df W w P v l->Df W (w.alloc o) P v l):=λw P v l o h=>h.y (zA.a (λ_=>False) w o) (λ_ q=>q.elim);have NS:Hid (Nst K.g.nb s.c s'.c ([⟨E,u,t.c⟩]++L++[⟨2,0,s'.c⟩])):=by
   show Nst _ _ _ _;rw[<-be.o];refine .one (i4▸F.b) ?_;rw[<-ad.o,<-ac.o];have hk':=ap;by_cases h:k<K.g.nr
   .simp[h]
   have e:k-K.g.nr<K.g.nb:=oM;simp only[h,if_false];exact .inr ⟨trivial,Int.natCast_nonneg _,Int.ofNat_lt.2 e⟩
  clear e5 g5 w5 ag az;go_wp2_with (first
   |(at_builtin;refine Zf (L:=[⟨E,u,t.c⟩]) (L2:=L) rfl _ _ rfl rfl rfl R6 (R5.y (Gh (λ_=>False) _) (λ_ q=>q.elim)) (by show 1+L.length<=16777216;omega) (zP an (Gh (λ_=>False) _).l) ?_;intro W6 a6 n6 c6 R7 K6;have a1:=zP (zP an (Gh (λ_=>False) _).l) K6.l)
   |(at_builtin;refine Zf (L:=[⟨E,u,t.c⟩]++L) (L2:=[⟨2,0,s'.c⟩]) rfl _ _ rfl rfl rfl (RA.o _ _ _ _ _ R7.o) (QE (w0:=W) W6 ⟨2,0,s'.c⟩ a1) (by show([_]++L).length+1<=16777216;rw[zJ,Dd];omega) (zP a1 (Gh (λ_=>False) _).l) ?_;intro W7 a7 n7 c7 R8 K7))
  have ks:Kf W5 W7:=by
   have k6:=K6.o;have k7:=K7.o;have s6:=k6.l;have s7:=k7.l;simp only[Ck]at s6 s7;exact⟨k7.os.trans k6.os,k7.g.trans k6.g,k7.f.trans k6.f,oM,λx J _=>by
    rw[k7.d x (by simp only[Ck];omega) (λh=>by rcases h.1 with h|h;exact aB h oM;simp only[Ck]at h;omega),Jo oM,k6.d x (by simp only[Ck];omega) oM,Jo J]⟩
  refine zL (by simp[results,f80,go_sem];rfl) rfl (Y.o.ok { (s'.g.n 2 0).g with f:=(q:Int),st:=s.st } ([⟨E,u,t.c⟩]++L++[⟨2,0,s'.c⟩]) _ a7 n7 c7 W7 ⟨rfl,rfl,?_,E5.o,⟨Z.o.e,Z.o.thr,Z.o.a,Z.o.st,?_⟩,?_,?_⟩ ((W5'.o.f ks (λ_ q=>q.elim) (λ_ q=>q.elim) (λx J=>J.imp id (λh=>?_))).d rfl rfl rfl rfl) R8.o (K5.o.c (vv ks)))
  .show s'.a++[_]=_;rw[F.o.a,i2];simp[zC.g]
  .have:=Z.c;rw[i6]at this;rw[zJ,Dd]at this;show(s.st.length:Int)<=_;omega
  .have:=F.p;show s.b<=s'.b+1+1;omega
  .exact NS
  rcases h.1 with h|h
  .rcases h.1 with h|h
   .omega
   simp only[Ck]at h;omega
  have:=K6.l;simp only[Ck]at h this;omega
 .let⟨F',e1,h1⟩:=f.st;let⟨L',e2⟩:=f.a;have R:=ua (Y.h s' (t.c:Int) W3 ⟨⟨⟨2,(q:Int),0,0⟩::F',by rw[e1,i1,aq.o,Ce];rfl,λf hf=>(Dm.1 hf).elim (λe=>by rw[e]) (h1 f)⟩,⟨[⟨E,u,t.c⟩]++L',by rw[e2,i2,Ce]⟩,f.e,f.sg,by have:=f.p;omega⟩ O (KK.c H));unfold yU;clear f O H e1 h1 e2;go_wp2;exact zL (by simp[results,f80,go_sem]) rfl R
 have R:=ua (Y.b (t.c:Int) _ O (KK.c H));unfold yU;clear O H;go_wp2;exact zL (by simp[results,f80,go_sem]) rfl R
def X6(a:K.Ok)(b:K.Pg)(m:Nat):K.l m:=by
 induction m using Nat.strongRecOn with
 |_ m c=>exact X5 a b (λj e T=>X3 a (λi d=>c i oM) T)
end
end Go.Proofs.YtmlblamikgkdcaaGreat
