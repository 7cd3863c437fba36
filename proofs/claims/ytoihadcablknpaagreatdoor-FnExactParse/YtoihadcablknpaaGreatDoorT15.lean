import Derived.Test.YtoihadcablknpaaGreatDoorT14
import Derived.Test.YtoihadcablknpaaGreatDoorT13
set_option linter.unusedVariables false
set_option linter.unusedSimpArgs false
set_option linter.defProp false
set_option maxHeartbeats 40000000
set_option maxRecDepth 100000
namespace Go.Proofs.YtoihadcablknpaaGreatDoor
open Go.RowKit
open Go.Proofs.Tryz
open M (OpD uh Gr)
def Lg(S:Nat->Bool)(m:Nat)(j:Nat):Vl:=if j<m then .bool (S j) else Bf
def ujt{t:TypeId}{w:Wl}{b n m:Nat}{S:Nat->Bool}{v:Bool}(h:w.rowIs b t n (Lg S m))(c:v=S m):(w.setCell (Ad b m) (.bool v)).rowIs b t n (Lg S (m+1)):=by
 subst c;refine(h.set m (.bool (S m))).congr λi _=>?_
 unfold Lg;by_cases e:i=m
 ·subst e;simp
 rw[Zn e];by_cases a:i<m
 ·rw[Zp a,Zp oM]
 rw[Zn a,Zn oM]
def uju{t:TypeId}{w:Wl}{b n:Nat}{S:Nat->Bool}(h:w.rowIs b t n (Lg S n)):w.rowIs b t n (λi=>.bool (S i)):=h.congr λi a=>by simp[Lg,a]
def nuO(W1:Wl)(B n:Nat)(F:(Nat->Bool)->Nat->Bool)(b c:Vl)(wr:Wl):Prop :=
 ∃r a:Nat,r<=n/\c=Iv (r:Int)/\b=Sl (Sm a 0) n n/\B<a/\wr.rowIs a 4 n (λi=>.bool (M.rnd F r i))/\Below (B+1) W1 wr
def nuI(W2:Wl)(B c a n:Nat)(S:Nat->Bool)(b:Vl)(wr:Wl):Prop :=
 ∃k:Nat,k<=n/\b=Iv (k:Int)/\wr.rowIs a 4 n (Lg S k)/\Below a W2 wr
def yj{w:Wl}{b n:Nat}{t:TypeId}{f:Nat->Value}(h:w.rowIs b t n f):b<w.heap.size:=by
 obtain⟨c,h,_⟩:=h;exact(Cq.1 h).1
def uh1{w b n t S}(h:w.rowIs b t n (λi=>.bool (S i))):zS w b 0 n S:=λi a=>by rw[zL];exact h.cell a
structure uvi(g:Gr)(w:Wl)(e:Ending)(w':Wl):Prop where
 k:∃b,w.heap.size<=b/\e=Rt (Sl (Sm b 0) (g.nr+g.nb) (g.nr+g.nb))/\w'.rowIs b 4 (g.nr+g.nb) (λi=>.bool (M.rnd (vW g) (g.nr+g.nb) i))
 u:Bw w w'
def uo4 Q ra la a nr rc b lc n c N B d e mc mk w(j:nr+b=N)(f:nr<=100)(g:b<=100)(l:n<=2000)(k:n<=c)(h:wT Q w a n B)(m:n=0\/M.bF nr b n B)(i:zS w d e N mk) :
  Cs 64 #[.agg #[Sl ra nr rc,Sl la b lc],Sl a n c,Sl (Sm d e) N mc] w (Wh (M.cH nr mk n B) w):=by
 subst j;exact uh0 Q ra la a nr rc b lc n c B d e mc mk w f g l k h m i
def ud4 Q ra la rc lc g w(L:zC Q w ra la g)(t:M.Valid g)(Y:∀p,p<g.nr+g.nb->(nd g p).bl<=2000) :
  Cs 35 #[.agg #[Sl ra g.nr rc,Sl la g.nb lc]] w (uvi g w):=by
 have A:=t.r2;have B:=t.l2;have HG:Hid (zC Q w ra la g):=L;have HV:Hid (M.Valid g):=t;have HS:Hid (∀p,p<g.nr+g.nb->(nd g p).bl<=2000):=Y;obtain⟨n,X⟩:∃n,g.nr+g.nb=n:=⟨_,rfl⟩;have d:Hid (g.nr+g.nb=n):=X;have aj:n<=200:=oM;have ai:=run_make_row' (P:=prog) 81 4 Bf 1 underlying81 Vz rfl .i64 .i64 n oM oM;clear L t Y X;go_enter func35,ntmps35;go_wp2_with fail;refine(SJ ra la g.nr rc g.nb lc _ A B).mono ?_;rintro e W1 ⟨rfl,j⟩;rw[d.o];have g0:=ue (a:=(Ad w.heap.size 0)) (v:=Sl ra g.nr rc) (cN w.heap.size rfl rfl) j;have g1:=ue (a:=(Ad w.heap.size 1)) (v:=Sl la g.nb lc) (cN w.heap.size rfl rfl) j;have B1:=ua (uf (wG w) j);have s1:w.heap.size<W1.heap.size:=by have:=j.size;simp at this;omega
 clear j;go_wp2;go_loopw [4,5] (λmv D wr=>nuO W1 w.heap.size n (vW g) mv D wr) (λ_ D _=>n-(intOf D).toNat)
 ·exact⟨0,W1.heap.size,wP,rfl,rfl,s1,(Ja W1 _ n 4).congr λi _=>rfl,(wI W1).alloc oM _⟩
 obtain⟨r,c,hr,rfl,rfl,W,f,b⟩:=hrel;have S:=B1.trans (b.mono oM);have k0:wr.cell? (Ad w.heap.size 0)=some (Sl ra g.nr rc):=(b.cell (p:=(Ad w.heap.size 0)) (Jb _)).trans g0;have k1:wr.cell? (Ad w.heap.size 1)=some (Sl la g.nb lc):=(b.cell (p:=(Ad w.heap.size 1)) (Jb _)).trans g1;have J:Hid (wr.rowIs c 4 n (λi=>.bool (M.rnd (vW g) r i))):=f;have m:=yj f;have u:=ua S;have I:=ua b;clear f b S;by_cases ah:r<n
 ·obtain⟨V,eV⟩:∃V,wr=V:=⟨_,rfl⟩;subst wr;go_wp2;have m0:(V.alloc (Oc (madeCells #[Bf] n) 4)).cell? (Ad w.heap.size 0)=some (Sl ra g.nr rc):=uv _ k0;have m1:(V.alloc (Oc (madeCells #[Bf] n) 4)).cell? (Ad w.heap.size 1)=some (Sl la g.nb lc):=uv _ k1;have R1:Hid ((V.alloc (Oc (madeCells #[Bf] n) 4)).rowIs c 4 n (λi=>.bool (M.rnd (vW g) r i))):=J.o.of_block (Hj m);have y:Hid ((V.alloc (Oc (madeCells #[Bf] n) 4)).rowIs V.heap.size 4 n (Lg (vW g (M.rnd (vW g) r)) 0)):=(Ja V _ n 4).congr λi _=>by simp[Lg]
  have E:Hid (Bw V (V.alloc (Oc (madeCells #[Bf] n) 4))):=wG V;generalize V.alloc (Oc (madeCells #[Bf] n) 4)=W2 at *;obtain⟨h,l⟩:∃x,V.heap.size=x:=⟨_,rfl⟩;have ae:=ua l;have l2:=yj y;rw[l]at l2 m;rw[l]at y;rw[l];clear l;go_loopw [7] (λC wr=>nuI W2 w.heap.size c h n (vW g (M.rnd (vW g) r)) C wr) (λC _=>n-(intOf C).toNat)
  ·exact⟨0,wP,rfl,y,wI _⟩
  obtain⟨k,hk,rfl,f,b⟩:=hrel;have s:Hid (wr.rowIs h 4 n (Lg (vW g (M.rnd (vW g) r)) k)):=f;have H:=ua b;have ad:=yj f;have Z:wr.cell? (Ad w.heap.size 0)=some (Sl ra g.nr rc):=(b.cell (p:=(Ad w.heap.size 0)) (Nat.lt_trans W m)).trans m0;have j1:wr.cell? (Ad w.heap.size 1)=some (Sl la g.nb lc):=(b.cell (p:=(Ad w.heap.size 1)) (Nat.lt_trans W m)).trans m1;have RM:Hid (wr.rowIs c 4 n (λi=>.bool (M.rnd (vW g) r i))):=R1.of_block (b.block c m);have aa:Hid (Bw w wr):=(u.trans (E.mono u.size)).trans (b.mono oM);have lw:=ud Z;clear f b;by_cases U:k<n
  ·have hc:=s.cell U;have hf:=s.frozen k;go_wp2;go_region_with (first|(go_at_call 37;refine(SI Q ra la rc lc g _ (HG.o.q aa.o.drew) A B k (oH d.o)).mono ?_;rintro e z ⟨⟨ba,bc,rfl,N,T⟩,O⟩;have o:Bw wr z:=(wI wr).drew.trans O;have i0:=ue Z o;have i1:=ue j1 o;have F:Hid (Bw wr z):=o;have ac:Hid (wT Q z ba (nd g k).bl (nd g k).e):=N;have ab:Hid ((nd g k).bl<=bc):=T;clear o O N T)|(go_at_call 64;refine(uo4 Q ra la ba g.nr rc g.nb lc (nd g k).bl bc n (nd g k).e c 0 n (M.rnd (vW g) r) _ d.o A B (HS.o k (oH d.o)) ab.o ac.o (vM HV.o (oH d.o)) (uh1 (RM.o.of_block (F.o.block c oM)))).mono ?_;rintro e W4 ⟨rfl,R⟩;have G:Hid (Bw wr W4):=uf F.o R;have R4:Hid (W4.rowIs h 4 n (Lg (vW g (M.rnd (vW g) r)) k)):=s.o.of_block (G.o.block h ad);have af:=R4.o.cell U;have ag:=R4.o.frozen k;clear R));all_goals go_wp2
   all_goals go_roundw
   all_goals first
    |exact⟨k+1,oM,by go_num,ujt R4 rfl,(H.trans (G.mono oM)).setCell (p:=(Ad h k)) wF _⟩
    |(simp[intOf];omega)
  obtain rfl:k=n:=oM;go_wp2;go_roundw
  ·exact⟨r+1,h,oM,by go_num,rfl,oM,uju s,I.trans ((E.mono (oH I.size)).trans (H.mono oM))⟩
  simp[intOf];omega
 obtain rfl:r=n:=oM;go_wp2;go_ret;exact⟨⟨c,oM,by rw[d.o];rfl,by rw[d.o];exact J⟩,u⟩
def DJ{g}(h:M.Sound g)p(a:p<g.nr+g.nb):(nd g p).bl<=2000:=by
 unfold nd;split
 ·exact OI h oM
 exact OJ h oM
def SH{g}(h:yg g)p(b:p<g.nr+g.nb):(nd g p).bl<=1048576:=by
 unfold nd;split
 ·exact(h.a p oM).e.1
 exact(h.d (p-g.nr) oM).e.1
section
open M (OpD uh Gr)
def U4 args w:(callFunc 142 args).run prog w=.ok (.enter 142 args) w:=by simp[callFunc,func142,f142,go_sem]
end
section
def U5 a b c d e f g h w:(Op.equalIn 10000 191 (.agg #[Uv a,Uv b,Uv c,Uv d]) (.agg #[Uv e,Uv f,Uv g,Uv h])).run prog w=.ok (a==e&&b==f&&c==g&&d==h) w:=by
 have u3:=underlying189;have m:=isAgg189;have n:=sizeOf189;rw[show(10000:Nat)=9999+1 from rfl,Op.equalIn];simp only[Fa,run_underlying underlying191,Gk];simp only[Std.Legacy.Range.forIn_eq_forIn_range',Std.Legacy.Range.size,Nat.sub_zero,Ke,Nat.div_one,List.range'_succ,List.range'_zero,List.forIn_cons,List.forIn_nil];go_simp;by_cases i:a=e<;>by_cases j:b=f<;>by_cases k:c=g<;>by_cases l:d=h<;>simp[i,j,k,l]
def U6(s t:NS)(w:Wl):(binOp .eql 191 (.agg #[Uv s.a,Uv s.b,Uv s.c,Uv s.d]) (.agg #[Uv t.a,Uv t.b,Uv t.c,Uv t.d])).run prog w=.ok (.bool ((s.a:Int)==t.a&&(s.b:Int)==t.b&&(s.c:Int)==t.c&&(s.d:Int)==t.d)) w:=by
 rw[run_eql_struct,U5];rfl
def NS.f(s t:NS):Bool:=(s.e t).a==t.a&&(s.e t).b==t.b&&(s.e t).c==t.c&&(s.e t).d==t.d
def U7(s t:NS)(w:Wl)(f:s.OK)(g:t.OK) :
  Cs 141 #[.agg #[Uv s.a,Uv s.b,Uv s.c,Uv s.d],.agg #[Uv t.a,Uv t.b,Uv t.c,Uv t.d]] w λe w'=>(∃r:NS,r=s.e t/\e=Rt (.agg #[Uv r.a,Uv r.b,Uv r.c,Uv r.d]))/\Bw w w' :=
 (NG s t w f g).mono (λe w' h=>⟨⟨_,rfl,h.1⟩,h.2⟩)
def qQ{x y:Nat}(h:∀i,x.testBit i=true->y.testBit i=true):x ||| y=y:=by
 apply Nat.eq_of_testBit_eq;intro i;rw[Nat.testBit_or];cases e:x.testBit i with
 |false=>simp
 |true=>rw[h i e];rfl
def qR{x y:Nat}(h:x ||| y=y)(i:Nat)(e:x.testBit i=true):y.testBit i=true:=by
 rw[<-h,Nat.testBit_or,e];rfl
def U8(s t:NS)(g:s.OK):s.f t=true↔∀u,u<256->s.h u=true->t.h u=true:=by
 unfold NS.f NS.e;simp only[Kd,beq_iff_eq];constructor
 ·rintro⟨⟨⟨l,m⟩,n⟩,o⟩ u p e;unfold NS.h NS.w at *;rcases Va p with h|h|h|h
  ·rw[h]at e ⊢;exact qR l _ e
  ·rw[h]at e ⊢;exact qR m _ e
  ·rw[h]at e ⊢;exact qR n _ e
  rw[h]at e ⊢;exact qR o _ e
 intro h;have Oy:∀x:Nat,x<18446744073709551616->∀i,x.testBit i=true->i<64:=λx r i e=>by
  by_cases k:i<64
  ·exact k
  have:x<2 ^ i:=wX (show x<2 ^ 64 from r) (Nat.pow_le_pow_right dC oM);rw[Nat.testBit_lt_two_pow this]at e;cases e
 have j:∀q,q<4->∀i,i<64->(s.w q).testBit i=true->(t.w q).testBit i=true:=λq v i k e=>by
  have:=h (q*64+i) oM;unfold NS.h at this;rw[show(q*64+i) / 64=q by omega,show(q*64+i)%64=i by omega]at this;exact this e
 refine⟨⟨⟨qQ λi e=>?_,qQ λi e=>?_⟩,qQ λi e=>?_⟩,qQ λi e=>?_⟩
 ·exact j 0 dC i (Oy _ g.a i e) e
 ·exact j 1 dC i (Oy _ g.b i e) e
 ·exact j 2 dC i (Oy _ g.c i e) e
 exact j 3 dC i (Oy _ g.d i e) e
def U9(x y:Nat):((x:Int)==y)=(x==y):=by
 by_cases h:x=y
 ·subst h;simp
 have:¬(x:Int)=y:=oM;rw[Ht.2 h,Ht.2 this]
def V0(s t:NS)(w:Wl)(n:s.OK)(o:t.OK) :
  Cs 143 #[.agg #[Uv s.a,Uv s.b,Uv s.c,Uv s.d],.agg #[Uv t.a,Uv t.b,Uv t.c,Uv t.d]] w λe w'=>e=Rt (.bool (s.f t))/\Bw w w':=by
 have l:Hid s.OK:=n;have m:Hid t.OK:=o;have x:((w.alloc (zA s)).alloc (zA t)).cell? (Ad w.heap.size 0)=some (Uv s.a):=ue (cN w.heap.size rfl rfl) (wG _);have y:((w.alloc (zA s)).alloc (zA t)).cell? (Ad w.heap.size 1)=some (Uv s.b):=ue (cN w.heap.size rfl rfl) (wG _);have z:((w.alloc (zA s)).alloc (zA t)).cell? (Ad w.heap.size 2)=some (Uv s.c):=ue (cN w.heap.size rfl rfl) (wG _);have A:((w.alloc (zA s)).alloc (zA t)).cell? (Ad w.heap.size 3)=some (Uv s.d):=ue (cN w.heap.size rfl rfl) (wG _);have p:((w.alloc (zA s)).alloc (zA t)).cell? (Ad (w.heap.size+1) 0)=some (Uv t.a):=cN (w.heap.size+1) sM rfl;have y1:((w.alloc (zA s)).alloc (zA t)).cell? (Ad (w.heap.size+1) 1)=some (Uv t.b):=cN (w.heap.size+1) sM rfl;have y2:((w.alloc (zA s)).alloc (zA t)).cell? (Ad (w.heap.size+1) 2)=some (Uv t.c):=cN (w.heap.size+1) sM rfl;have q:((w.alloc (zA s)).alloc (zA t)).cell? (Ad (w.heap.size+1) 3)=some (Uv t.d):=cN (w.heap.size+1) sM rfl;have j:Hid (Bw w ((w.alloc (zA s)).alloc (zA t))):=Bn w;have u:∀(r:NS) (W:Wl),(binOp .eql 191 (.agg #[Uv r.a,Uv r.b,Uv r.c,Uv r.d]) (.agg #[Uv t.a,Uv t.b,Uv t.c,Uv t.d])).run prog W=.ok (.bool ((r.a:Int)==t.a&&(r.b:Int)==t.b&&(r.c:Int)==t.c&&(r.d:Int)==t.d)) W:=λr W=>U6 r t W
 have v:prog.eqGuardType prog.depth 191=false:=rR;go_enter func143,ntmps143;go_wp2;rw[show Obj.cells #[Uv s.a,Uv s.b,Uv s.c,Uv s.d] 191=zA s from rfl,show Obj.cells #[Uv t.a,Uv t.b,Uv t.c,Uv t.d] 191=zA t from rfl];generalize (w.alloc (zA s)).alloc (zA t)=X at *;go_region_with (go_at_call 141;refine(U7 s t _ l.o m.o).mono ?_;rintro e W ⟨⟨r,h,rfl⟩,g⟩;have k:Hid (r=s.e t):=h;have hb':Bw X W:=(wI X).drew.trans g;have i:Hid (Bw X W):=hb';have B:=ue p hb';have C:=ue y1 hb';have D:=ue y2 hb';have E:=ue q hb';clear h g hb');all_goals go_wp2
 all_goals go_ret
 all_goals (refine⟨yO ?_,uf j.o i.o⟩;rw[k.o];simp only[U9];rfl)
end
namespace M
inductive Pk(R:Nat->Nat->Bool)(k:Nat):Nat->Nat->Prop
 |one {i j:Nat}:R i j=true->Pk R k i j
 |cons {i m j:Nat}:R i m=true->m<k->Pk R k m j->Pk R k i j
section
variable {R:Nat->Nat->Bool} {k:Nat}
def Pk.l{a:Nat}(c:k<=a){i j:Nat}(h:Pk R k i j):Pk R a i j:=by
 induction h with
 |one e=>exact .one e
 |cons e d _ b=>exact .cons e oM b
def Pk.e{i m j:Nat}(h:Pk R k i m)(b:m<k)(a:Pk R k m j):Pk R k i j:=by
 induction h with
 |one e=>exact .cons e b a
 |cons e c _ d=>exact .cons e c (d b a)
def Pk.b{i j:Nat}:Pk R (k+1) i j↔Pk R k i j\/(Pk R k i k/\Pk R k k j):=by
 constructor
 ·intro h;induction h with
  |one e=>exact .inl (.one e)
  |@cons i m j e f _ c =>
   by_cases d:m<k
   ·rcases c with c|⟨a,b⟩
    ·exact .inl (.cons e d c)
    exact .inr ⟨.cons e d a,b⟩
   obtain rfl:m=k:=oM;rcases c with c|⟨_,b⟩
   ·exact .inr ⟨.one e,c⟩
   exact .inr ⟨.one e,b⟩
 rintro (h|⟨a,b⟩)
 ·exact h.l oM
 exact(a.l oM).e oM (b.l oM)
def Pk.f{i j:Nat}:Pk R 0 i j↔R i j=true:=by
 constructor
 ·intro h;cases h with
  |one e=>exact e
  |cons _ a _=>omega
 exact .one
def Pk.a{i j:Nat}(h:Pk R k i j):R i j=true\/∃m,R i m=true/\m<k/\Pk R k m j:=by
 cases h with
 |one e=>exact .inl e
 |cons e b h=>exact .inr ⟨_,e,b,h⟩
end
def Warsh(R:Nat->Nat->Bool)(n k:Nat)(T:Nat->Nat->Bool):Prop:=∀i j,i<n->j<n->(T i j=true↔Pk R k i j)
def Warsh.d{R n}:Warsh R n 0 R:=λi j _ _=>Pk.f.symm
def Warsh.b{R n k T d}(h:Warsh R n k T)(e:k<n)(f:∀i j,i<n->j<n->d i j=(T i j||(T i k&&T k j))):Warsh R n (k+1) d:=by
 intro i j a c;rw[f i j a c,Pk.b];simp only[Ma,Kd,h i j a c,h i k a e,h k j e c]
def cO(R:Nat->Nat->Bool)(n:Nat):Prop:=∀i j,R i j=true->j<n
def AX(R:Nat->Nat->Bool)(n:Nat)(m:Nat->Bool)(v:Nat):Prop:=∀u,u<n->R v u=true->m u=true
def lK{R n}(w:cO R n)(F:(Nat->Bool)->Nat->Bool)(l:∀m v,v<n->(F m v=true↔AX R n m v)){m}(o:Least n F m){i}(q:i<n)(p:Pk R n i i):m i=false:=by
 have:∃t:Nat->Bool,∀v,t v=true↔¬((v=i\/Pk R n i v)/\Pk R n v i):=by
  refine⟨λv=>@decide (¬((v=i\/Pk R n i v)/\Pk R n v i)) (Classical.propDecidable _),λv=>?_⟩;exact @decide_eq_true_iff _ (Classical.propDecidable _)
 obtain⟨t,d⟩:=this;have x:∀v,v<n->F t v=true->t v=true:=by
  intro v j h;rw[l t v j]at h;rw[d];rintro⟨c,k⟩;have go:∀u,R v u=true->(u=i\/Pk R n u i)->False:=λu b g=>by
   have s:=w v u b;have:=(d u).1 (h u s b);apply this;refine⟨?_,?_⟩
   ·rcases c with rfl|c
    ·exact .inr (.one b)
    exact .inr (c.e j (.one b))
   rcases g with rfl|g
   ·exact p
   exact g
  rcases k.a with e|⟨u,e,_,b⟩
  ·exact go i e (.inl rfl)
  exact go u e (.inr b)
 cases r:m i with
 |false=>rfl
 |true =>
  have:=(d i).1 (o.f t x i q r);exact aB ⟨.inl rfl,p⟩ this
structure Srch(R:Nat->Nat->Bool)(n uR k:Nat)(S S':Nat->Bool):Prop where
 up:∀v,v<n->S v=true->S' v=true
 a:∀v,v<n->S' v=true->S v=false->Pk R n uR v
 b:∀v,v<n->S' v=true->S v=false->∀u,u<n->R v u=true->S' u=true
 r:∀u,u<k->u<n->R uR u=true->S' u=true
def Srch.d R n uR S:Srch R n uR 0 S S :=
 ⟨λ_ _ h=>h,λv _ h a=>aB (h.symm.trans a) dC,λv _ h a=>aB (h.symm.trans a) dC,λu b=>aB b Ct⟩
def Srch.skip{R n uR k S c}(h:Srch R n uR k S c)(f:R uR k=true->c k=true):Srch R n uR (k+1) S c :=
 ⟨h.up,h.a,h.b,λu i g d=>if e:u=k then e▸f (e▸d) else h.r u oM g d⟩
def Srch.c{R n uR k S f m p}(t:k<n)(h:Srch R n uR k S f)(z:R uR k=true)(C:f k=false)(o:∀v,v<n->m v=(f v||v==k))(l:Srch R n k n m p):Srch R n uR (k+1) S p:=by
 have x:∀v,v<n->f v=true->p v=true:=λv d e=>l.up v d (by rw[o v d,e];rfl)
 have B:=l.up k t (by rw[o k t];simp);refine⟨λv d e=>x v d (h.up v d e),λv d e s=>?_,λv d e s u g w=>?_,λu g y A=>?_⟩
 ·by_cases i:f v=true
  ·exact h.a v d i s
  by_cases j:v=k
  ·subst j;exact .one z
  have q:m v=false:=by rw[o v d];simp[j];simpa using i
  exact .cons z t (l.a v d e q)
 ·by_cases i:f v=true
  ·exact x u g (h.b v d i s u g w)
  by_cases j:v=k
  ·subst j;exact l.r u g g w
  have q:m v=false:=by rw[o v d];simp[j];simpa using i
  exact l.b v d e q u g w
 by_cases e:u=k
 ·subst e;exact B
 exact x u y (h.r u oM y A)
def Srch.e{R n uR c}(q:cO R n)(h:Srch R n uR n (λ_=>false) c):∀v,v<n->(c v=true↔Pk R n uR v):=by
 have t:∀i j,Pk R n i j->(i=uR\/(i<n/\c i=true))->c j=true:=by
  intro i j p;induction p with
  |@one i j e =>
   intro k;have l:=q _ _ e;rcases k with rfl|⟨f,g⟩
   ·exact h.r _ l l e
   exact h.b _ f g rfl _ l e
  |@cons i m j e d _ s =>
   intro k;refine s (.inr ⟨d,?_⟩);rcases k with rfl|⟨f,g⟩
   ·exact h.r _ d d e
   exact h.b _ f g rfl _ d e
 exact λv o=>⟨λe=>h.a v o e rfl,λp=>t uR v p (.inl rfl)⟩
end M
section
open M (OpD uh Gr)
def RU(U:Nat->NS)(v u:Nat):Bool:=(U v).h u
structure Eu(W:Wl)(bb fb sb ub uo n uc:Nat)(U:Nat->NS):Prop where
 e:W.cell? (Ad bb 0)=some (Sl (Sm ub uo) n uc)
 fn:W.cell? (Ad fb 0)=some (.func (.func 171) #[] #[.pointer (Sm bb 0),.pointer (Sm sb 0),.pointer (Sm fb 0)])
 h:Dz W ub uo n U
 n1:¬bb=sb
 n2:¬fb=sb
 n3:¬ub=sb
def Eu.m{W W' g j l f q n o U}(h:Eu W g j l f q n o U)(k:wA (λx=>x=l) W W'):Eu W' g j l f q n o U :=
 ⟨(k.p (p:=(Ad g 0)) (ud h.e) h.n1).trans h.e,(k.p (p:=(Ad j 0)) (ud h.fn) h.n2).trans h.fn,
  λi r=>let ⟨a,b,c,d⟩:=h.h i r
   ⟨(k.p (p:=(Ad f _)) (ud a) h.n3).trans a,(k.p (p:=(Ad f _)) (ud b) h.n3).trans b,(k.p (p:=(Ad f _)) (ud c) h.n3).trans c,(k.p (p:=(Ad f _)) (ud d) h.n3).trans d⟩,h.n1,h.n2,h.n3⟩
def vw{C W W'}(h:Bw W W'):wA C W W':=wA.i h (λk a _=>a)
def MP W b s:wA (λx=>x=b) W (Hz W b s):=by
 unfold Hz;exact(((wA.b (C:=λx=>x=b) _ (Ad b 0) _ rfl).c (wA.b (C:=λx=>x=b) _ (Ad b 1) _ rfl)).c (wA.b (C:=λx=>x=b) _ (Ad b 2) _ rfl)).c (wA.b (C:=λx=>x=b) _ (Ad b 3) _ rfl)
structure MQ(n uR sb:Nat)(U:Nat->NS)(S:NS)(W:Wl)(e:Ending)(W':Wl):Prop where
 ret:∃v,e=Rt v
 k:∃S':NS,S'.OK/\At W' sb S'/\M.Srch (RU U) n uR n S.h S'.h
 m:wA (λx=>x=sb) W W'
def MR(n uR b:Nat)(U:Nat->NS)(S:NS)(W:Wl)(c:Vl)(wr:Wl):Prop :=
 ∃(k:Nat) (a:NS),k<=n/\c=Iv (k:Int)/\a.OK/\At wr b a/\M.Srch (RU U) n uR k S.h a.h/\wA (λx=>x=b) W wr
def V1 l j f N P n O U(hn:n<=200)(hU:∀i,i<n->(U i).OK)d:∀(S:NS) (uR:Nat) (W:Wl),n-M.cnt S.h n<=d->uR<n->S.OK->Eu W l j f N P n O U->At W f S ->
  Cs 171 #[Iv (uR:Int),.pointer (Sm l 0),.pointer (Sm f 0),.pointer (Sm j 0)] W (MQ n uR f U S W):=by
 induction d using Nat.strongRecOn with
 |_ d ih =>
  intro S uR W hd af hS D Z;have IH:Hid (∀m,m<d->∀(S:NS) (uR:Nat) (W:Wl),n-M.cnt S.h n<=m->uR<n->S.OK->Eu W l j f N P n O U->At W f S ->
   Cs 171 #[Iv (uR:Int),.pointer (Sm l 0),.pointer (Sm f 0),.pointer (Sm j 0)] W (MQ n uR f U S W)):=ih
  have HH:=ua D;have HA:Hid (At W f S):=Z;have HS:Hid S.OK:=hS;have HU:=ua hU;have HD:=ua hd;have b0:=D.e;clear ih D Z hS hU hd;go_enter func171,ntmps171;go_wp2;go_loopw [8] (λL wr=>MR n uR f U S W L wr) (λL _=>n-(intOf L).toNat)
  ·exact⟨0,S,wP,rfl,HS.o,HA.o,M.Srch.d _ _ _ _,zM⟩
  obtain⟨k,g,hk,rfl,ac,aa,ai,G⟩:=hrel;have HS':Hid g.OK:=ac;have HA':Hid (At wr f g):=aa;have p:Hid (M.Srch (RU U) n uR k S.h g.h):=ai;have y:Hid (wA (λx=>x=f) W wr):=G;have HH':=ua (HH.o.m G);clear ac aa ai G b0;by_cases H:k<n
  ·have b1:=HH'.o.e;obtain⟨x0,x1,x2,x3⟩:=HH'.o.h uR af;have X:Hid (U uR).OK:=HU.o uR af;by_cases z:(U uR).h k=true
   ·have B:Hid ((U uR).h k=true):=z;go_wp2_with fail;refine(qt (U uR) k X.o oM).mono ?_;rintro e W2 ⟨rfl,o⟩;have w:Hid (Bw wr W2):=o;have Q:=ua (HA'.o.q o);obtain⟨m0,m1,m2,m3⟩:=Q.o.c;clear o x0 x1 x2 x3 b1;go_wp2_with fail;refine(qt g k HS'.o oM).mono ?_;rintro e Y ⟨rfl,E⟩;have R:Hid (Bw wr Y):=uf w.o E;have r:Hid (At Y f g):=Q.o.q E;obtain⟨e0,e1,e2,e3⟩:=r.o.c;obtain⟨d0,d1,d2,d3⟩:=r.o.s;clear E m0 m1 m2 m3;by_cases I:g.h k=true
    ·have C:Hid (g.h k=true):=I;go_wp2;go_roundw
     ·exact⟨k+1,g,oM,by go_num,HS'.o,r.o,p.o.skip (λ_=>C.o),y.o.c (vw R.o)⟩
     simp[intOf];omega
    have ah:g.h k=false:=(by simpa using I);have C:=ua ah;clear I;go_wp2_with fail;refine(Uu g k _ HS'.o oM).mono ?_;rintro e W4 ⟨⟨t,J,rfl⟩,F⟩;have HT:=ua J;have T:=ua (uf R.o F);have A:=ua (r.o.q F);obtain⟨au,av,aw,ax⟩:=A.o.c;obtain⟨an,ao,ap,aq⟩:=A.o.s;have ak:Hid t.OK:=(by show t.OK;rw[J];exact HS'.o.k k);have V:Hid (Eu (Hz W4 f t) l j f N P n O U):=(HH'.o.m (vw T.o)).m (MP W4 f t);have A5:Hid (At (Hz W4 f t) f t):=A.o.set t;have K5:Hid (wA (λx=>x=f) wr (Hz W4 f t)):=(vw T.o).c (MP W4 f t);have f5:((((W4.setCell (Ad f 0) (Uv t.a)).setCell (Ad f 1) (Uv t.b)).setCell (Ad f 2) (Uv t.c)).setCell (Ad f 3) (Uv t.d)).cell? (Ad j 0)=some (.func (.func 171) #[] #[.pointer (Sm l 0),.pointer (Sm f 0),.pointer (Sm j 0)]):=V.o.fn;have ag:Hid (∀v,v<n->t.h v=(g.h v||v==k)):=λv hv=>by rw[HT.o,qT oM oM]
    have al:Hid (n-M.cnt t.h n<d):=by
     show _<_;have c1:M.cnt t.h n=M.cnt g.h n+1:=by
      rw[<-M.fZ g.h k n H ah];have:∀q,q<=n->M.cnt t.h q=M.cnt (λu=>g.h u||u==k) q:=by
       intro q hq;induction q with
       |zero=>rfl
       |succ q am=>rw[M.cnt,M.cnt,am oM,ag.o q oM]
      exact this n wF
     have c2:=M.eD S.h g.h n p.o.up;have c3:=M.dE t.h n;have:=HD.o;omega
    clear F J e0 e1 e2 e3 d0 d1 d2 d3;go_wp2_with fail;refine(IH.o _ al.o t k _ wF H ak.o V.o A5.o).mono ?_;rintro e W6 ⟨⟨v,rfl⟩,⟨S3,ad,ab,aj⟩,ae⟩;have HE:Hid (MR n uR f U S W (Iv ((k+1:Nat):Int)) W6):=⟨k+1,S3,oM,rfl,ad,ab,M.Srch.c H p.o B.o C.o ag.o aj,(y.o.c K5.o).c ae⟩;clear ad ab aj ae;go_wp2;go_roundw
    ·exact HE.o
    simp[intOf];omega
   have ay:(U uR).h k=false:=(by simpa using z);have B:Hid (¬(U uR).h k=true):=z;clear z;go_wp2_with (go_at_call 139;refine(qt (U uR) k X.o oM).mono ?_;rintro e W2 ⟨rfl,o⟩;have w:Hid (Bw wr W2):=o;clear o);go_roundw
   ·exact⟨k+1,g,oM,by go_num,HS'.o,HA'.o.q w.o,p.o.skip (λq=>aB q B.o),y.o.c (vw w.o)⟩
   simp[intOf];omega
  obtain rfl:k=n:=oM;go_wp2;go_end0;exact⟨⟨_,rfl⟩,⟨g,HS'.o,HA'.o,p.o⟩,y.o⟩
def V2 b d n g h U w(j:Dz w b d n U)(o:∀i,i<n->(U i).OK)(J:n<=200)(l:h<n)(r:M.cO (RU U) n) :
  Cs 144 #[Sl (Sm b d) n g,Iv (h:Int)] w (yz (M.Pk (RU U) n h h) w):=by
 have D:Hid (Dz w b d n U):=j;have B:Hid (∀i,i<n->(U i).OK):=o;have E:Hid (M.cO (RU U) n):=r;have O:b<w.heap.size:=ud (j h l).1;have N:∀(a:Addr) (f:Fn) (xs ys:Av) (W:Wl),(store a (.func f xs ys)).run prog W=stored prog W a (.func f xs ys) .plain:=λa f xs ys W=>run_store prog W a _ .plain rfl
 clear j o r;have s:Hid (At (((w.alloc (Oc #[Sl (Sm b d) n g] 193)).alloc (Oc #[Uv 0,Uv 0,Uv 0,Uv 0] 191)).alloc (Oc #[.func (.func 171) #[] #[.pointer (Sm w.heap.size 0),.pointer (Sm (w.heap.size+1) 0),.pointer (Sm (w.heap.size+1+1) 0)]] 299)) (w.heap.size+1) nz):=by
  have:=At.e (w.alloc (Oc #[Sl (Sm b d) n g] 193)) nz;rw[zV]at this;exact this.q (wG _)
 have u:Hid (Bw w (((w.alloc (Oc #[Sl (Sm b d) n g] 193)).alloc (Oc #[Uv 0,Uv 0,Uv 0,Uv 0] 191)).alloc (Oc #[.func (.func 171) #[] #[.pointer (Sm w.heap.size 0),.pointer (Sm (w.heap.size+1) 0),.pointer (Sm (w.heap.size+1+1) 0)]] 299))):=Mp w _ _ _;have A:Hid (Eu (((w.alloc (Oc #[Sl (Sm b d) n g] 193)).alloc (Oc #[Uv 0,Uv 0,Uv 0,Uv 0] 191)).alloc (Oc #[.func (.func 171) #[] #[.pointer (Sm w.heap.size 0),.pointer (Sm (w.heap.size+1) 0),.pointer (Sm (w.heap.size+1+1) 0)]] 299)) w.heap.size (w.heap.size+1+1) (w.heap.size+1) b d n g U):=⟨ue (ue (cN w.heap.size rfl rfl) (wG _)) (wG _),cN (w.heap.size+1+1) sM rfl,D.o.q (Mp w _ _ _),oM,oM,oM⟩;have L:(((w.alloc (Oc #[Sl (Sm b d) n g] 193)).alloc (Oc #[Uv 0,Uv 0,Uv 0,Uv 0] 191)).alloc (Oc #[.nilFunc] 299)).cell? (Ad (w.heap.size+1+1) 0)=some .nilFunc:=cN (w.heap.size+1+1) sM rfl;have V:(((w.alloc (Oc #[Sl (Sm b d) n g] 193)).alloc (Oc #[Uv 0,Uv 0,Uv 0,Uv 0] 191)).alloc (Oc #[.nilFunc] 299)).frozen? (Ad (w.heap.size+1+1) 0)=false:=qk _ 299 (w.heap.size+1+1) 0 sM sM;go_enter func144,ntmps144;go_wp2_with fail;refine(V1 w.heap.size (w.heap.size+1+1) (w.heap.size+1) b d n g U J B n nz h _ (Nat.sub_le _ _) l NS.OK.f A s).mono ?_;rintro e W ⟨⟨v,rfl⟩,⟨S,H,G,p⟩,m⟩;have F:=funext xD;rw[F]at p;have z:=ua (M.Srch.e E p h l);have C:=H;have t:=ua G;have y:=ua (u.trans (m.below sO (λk m=>oM)));obtain⟨P,Q,R,T⟩:=t.c;go_wp2_with fail;refine(qt S h C oM).mono ?_;rintro e W2 ⟨rfl,I⟩;have x:=ua (uf y I);go_wp2;go_ret;exact⟨⟨_,rfl,z⟩,x⟩
end
namespace M
section
variable {α:Type} [Inhabited α] (f:OpD->α->α->α) (B:Nat->OpD)
def V3(q lo:Nat)(x:α)(a:ar (B q).e=0)(e:stk f B (q+1)=(lo,x)::stk f B lo):lo=q/\x=f (B q) default default:=by
 rw[stk]at e;simp[stp,a]at e;exact⟨e.1.1.symm,e.1.2.symm⟩
def V4(q lo:Nat)(x:α)(a:Fed B (q+1))(h:ar (B q).e=1)(e:stk f B (q+1)=(lo,x)::stk f B lo) :
  ∃y,lo<q/\stk f B q=(lo,y)::stk f B lo/\x=f (B q) y default:=by
 have b:=bR f B q (a.g oM);have k:=a q oM;rw[stk]at e;match hs:stk f B q with
 |[]=>rw[hs]at b;simp at b;omega
 |(s,y)::r =>
  rw[hs]at e;simp[stp,h]at e;obtain⟨⟨rfl,rfl⟩,j⟩:=e;obtain⟨c,d,i⟩:=cI f B q (a.g oM) s y _ hs;exact⟨y,c,by rw[d],rfl⟩
def V5(q lo:Nat)(x:α)(d:Fed B (q+1))(l:ar (B q).e=2)(e:stk f B (q+1)=(lo,x)::stk f B lo) :
  ∃s y z,lo<s/\s<q/\stk f B q=(s,y)::stk f B s/\stk f B s=(lo,z)::stk f B lo/\x=f (B q) z y/\dep B s+1=dep B q/\∀j,s<j->j<=q->dep B q<=dep B j:=by
 have c:Fed B q:=d.g oM;have a:=bR f B q c;have o:=d q oM;rw[stk]at e;match hs:stk f B q with
 |[]=>rw[hs]at a;simp at a;omega
 |[(s,y)]=>rw[hs]at a;simp at a;omega
 |(s,y)::(s1,z)::r =>
  rw[hs]at e a;simp only[stp,l,if_true,List.cons.injEq,Kt]at e;obtain⟨⟨rfl,rfl⟩,n⟩:=e;obtain⟨h,b,i⟩:=cI f B q c s y _ hs;obtain⟨b1,k,m⟩:=cI f B s (c.g oM) s1 z r b.symm;have l2:=bR f B s (c.g oM);rw[<-b]at l2;simp at a l2;exact⟨s,y,z,b1,h,by rw[<-b],by rw[<-b,k],rfl,oM,i⟩
def ar6:ar 6=1:=rfl
def Loop(b:α->Bool)(lo a:Nat):Prop:=∃i,lo<=i/\i<a/\(B i).e=6/\b (top (stk f B i))=true
def lL(n A:α->Bool)(t:∀o x y,n (f o x y)=(if o.e=6 then A x||n x else if ar o.e=2 then n x||n y else if ar o.e=1 then n x else false))(a:Nat) :
  ∀lo x,Fed B a->stk f B a=(lo,x)::stk f B lo->(n x=true↔Loop f B A lo a):=by
 induction a using Nat.strongRecOn with
 |_ a u =>
  intro lo x m e;obtain⟨H,_,_⟩:=cI f B a m lo x _ e;obtain⟨q,rfl⟩:∃q,a=q+1:=⟨a-1,oM⟩;rcases dD (B q).e with b|b|b
  ·obtain⟨rfl,rfl⟩:=V3 f B q lo x b e;have d:¬(B lo).e=6:=λh=>by rw[h,ar6]at b;omega
   rw[t,Zn d,b];simp;rintro⟨i,j,p,c,l⟩;obtain rfl:i=lo:=oM;exact d c
  ·obtain⟨y,J,st,rfl⟩:=V4 f B q lo x m b e;have I:=u q oM lo y (m.g oM) st;rw[t];by_cases d:(B q).e=6
   ·rw[Zp d,Ma,I];constructor
    ·rintro (h|⟨i,j,p,c⟩)
     ·exact⟨q,oM,oM,d,by rw[st];exact h⟩
     exact⟨i,j,oM,c⟩
    rintro⟨i,j,p,c,l⟩;by_cases a:i=q
    ·subst a;rw[st]at l;exact .inl l
    exact .inr ⟨i,j,oM,c,l⟩
   rw[Zn d,b,Zn dC,Zp rfl,I];constructor
   ·rintro⟨i,j,p,c⟩;exact⟨i,j,oM,c⟩
   rintro⟨i,j,p,c,l⟩;by_cases a:i=q
   ·subst a;exact aB c d
   exact⟨i,j,oM,c,l⟩
  obtain⟨s,y,z,j,p,F,G,rfl,_,_⟩:=V5 f B q lo x m b e;have C:=u q oM s y (m.g oM) F;have D:=u s oM lo z (m.g oM) G;have d:¬(B q).e=6:=λh=>by rw[h,ar6]at b;omega
  rw[t,Zn d,b,Zp rfl,Ma,C,D];constructor
  ·rintro (⟨i,r,v,k⟩|⟨i,r,v,k⟩)
   ·exact⟨i,r,oM,k⟩
   exact⟨i,oM,oM,k⟩
  rintro⟨i,r,v,k,w⟩;by_cases a:i=q
  ·subst a;exact aB k d
  by_cases E:i<s
  ·exact .inl ⟨i,r,E,k,w⟩
  exact .inr ⟨i,oM,oM,k,w⟩
end
inductive Chk(n:Nat)(L O:Np):Int->Int->Prop
 |left (p:Nat):p<n->L p->(∀q,q<p->¬L q)->Chk n L O 8 p
 |loop (p:Nat):(∀q,q<n->¬L q)->p<n->O p->(∀q,q<p->¬O q)->Chk n L O 9 p
 |fine:(∀q,q<n->¬L q)->(∀q,q<n->¬O q)->Chk n L O 0 0
def gF{P:Np}{p q:Nat}(a:P p)(b:∀r,r<p->¬P r)(c:P q)(d:∀r,r<q->¬P r):p=q:=by
 rcases Nat.lt_trichotomy p q with h|h|h
 ·exact aB a (d p h)
 ·exact h
 exact aB c (b q h)
def Chk.a{n L O a b l m}(h:Chk n L O a b)(k:Chk n L O l m):a=l/\b=m:=by
 cases h with
 |left p i f j =>
  cases k with
  |left e c d g=>rw[gF f j d g];exact⟨rfl,rfl⟩
  |loop e c _ _ _=>exact absurd f (c p i)
  |fine c _=>exact absurd f (c p i)
 |loop p i f j q =>
  cases k with
  |left e c d g=>exact absurd d (i e c)
  |loop e c d g o=>rw[gF j q g o];exact⟨rfl,rfl⟩
  |fine c d=>exact absurd j (d p f)
 |fine i f =>
  cases k with
  |left e c d g=>exact absurd d (i e c)
  |loop e c d g o=>exact absurd g (f e d)
  |fine c d=>exact⟨rfl,rfl⟩
def cR(R:Nat->Nat->Bool)(n:Nat)(m:Nat->Bool)(v:Nat):Bool:=(List.range n).all (λu=>!(R v u)||m u)
def dU R n m v:cR R n m v=true↔AX R n m v:=by
 unfold cR AX;simp only[List.all_eq_true,Ng,Ma,Bool.not_eq_true'];constructor
 ·intro h u b a;rcases h u b with k|k
  ·rw[a]at k;cases k
  exact k
 intro h u b;cases a:R v u with
 |false=>exact .inl rfl
 |true=>exact .inr (h u b a)
def lJ R n:Mono n (cR R n) :=
 ⟨λm d h v c e=>by
  rw[dU]at *;exact λu a b=>h u a (e u a b)⟩
def lI R n m e x(f:∀v,v<n->e v=(m v||v==x))v(b:cR R n e v=true)(c:cR R n m v=false):R v x=true:=by
 rw[dU]at b;cases g:R v x with
 |true=>rfl
 |false =>
  have:cR R n m v=true:=by
   rw[dU];intro u d a;have:=b u d a;rw[f u d]at this;simp at this;rcases this with k|k
   ·exact k
   subst k;rw[g]at a;cases a
  rw[this]at c;cases c
def lH{R n}(c:cO R n){m}(a:Least n (cR R n) m){i}(b:i<n):(m i=false/\Pk R n i i)↔Pk R n i i :=
 ⟨λh=>h.2,λh=>⟨lK c (cR R n) (λm v _=>dU R n m v) a b h,h⟩⟩
end M
section
open M (OpD uh Gr)
def V6 g i j n z x U S W(s:W.cell? (Ad g 0)=some (Sl (Sm i j) n z))(v:Dz W i j n U)(y:x<n)(A:n<=200)(w:(U x).OK)(t:S.OK) :
  Cs 142 #[Iv (x:Int),.agg #[Uv S.a,Uv S.b,Uv S.c,Uv S.d],.pointer (Sm g 0)] W λe W'=>e=Rt (.bool ((U x).f S))/\Bw W W':=by
 obtain⟨p,q,r,c3⟩:=v x y;have l:Hid (Bw W (W.alloc (zA S))):=wG W;have y2:=uv (zA S) s;have F:=uv (zA S) p;have G:=uv (zA S) q;have H:=uv (zA S) r;have I:=uv (zA S) c3;obtain⟨B,C,D,E⟩:=(At.e W S).c;have m:Hid (U x).OK:=w;have o:=t;generalize U x=u at *;go_enter func142,ntmps142;go_wp2;rw[show(Obj.cells #[Uv S.a,Uv S.b,Uv S.c,Uv S.d] 191)=zA S from rfl];generalize W.alloc (zA S)=X at *;go_region_with (go_at_call 143;refine(V0 u S _ m o).mono ?_;rintro e W2 ⟨rfl,h⟩;have k:Hid (Bw W W2):=uf l ((wI X).drew.trans h);clear h);all_goals go_wp2
 all_goals go_ret
 all_goals exact⟨rfl,k⟩
def V7 U S n x(d:n<=256)(a:(U x).OK)(c:M.cO (RU U) n):(U x).f S=M.cR (RU U) n S.h x:=by
 rw[Nf,U8 _ _ a,M.dU];constructor
 ·exact λh u b e=>h u oM e
 exact λh u b e=>h u (c x u e) e
structure V8(n:Nat)(L:Np)(w:Wl)(e:Ending)(w':Wl):Prop where
 k:(∃p:Nat,p<n/\L p/\(∀q,q<p->¬L q)/\e=Rt (Iv (p:Int)))\/((∀q,q<n->¬L q)/\e=Rt (Iv (-1)))
 u:Bw w w'
def V9(w W1:Wl)(n:Nat)(L:Np)(a:Vl)(wr:Wl):Prop :=
 ∃k:Nat,k<=n/\a=Iv (k:Int)/\(∀q,q<k->¬L q)/\Bw W1 wr
def W0 j l n o U w(Y:Dz w j l n U)(ac:∀i,i<n->(U i).OK)(V:0<n)(H:n<=200)(hw:M.cO (RU U) n) :
  Cs 106 #[Sl (Sm j l) n o] w (V8 n (λp=>M.Pk (RU U) n p p) w):=by
 have D:=ua Y;have u:=ua ac;have E:=ua hw;have af:=ud (Y 0 V).1;have T:(w.alloc (Oc #[Sl (Sm j l) n o] 193)).cell? (Ad w.heap.size 0)=some (Sl (Sm j l) n o):=cN w.heap.size rfl rfl;have B:Hid (Bw w (w.alloc (Oc #[Sl (Sm j l) n o] 193))):=wG w;go_enter func106,ntmps106;go_wp2_with fail;generalize w.alloc (Oc #[Sl (Sm j l) n o] 193)=X at *;refine(qu (f:=142) (ps:=#[.pointer (Sm w.heap.size 0)]) j l n o U (M.cR (RU U) n) X U4 (D.q B) u V H (M.lJ _ _) (λm m' x A hm v hv e1 e2=>M.lI (RU U) n m m' x hm v e1 e2)
  (λx A S F W Z=>by
   rw[<-V7 U S n x oM (u.o x A) E.o];exact V6 w.heap.size j l n o x U S W (ue T Z) ((D.q B).q Z) A H (u x A) F)).mono ?_
 rintro e W1 ⟨⟨S,F,hL,rfl⟩,g⟩;have R:=F;have HL:=ua hL;have b1:=ue T g;have B1:Hid (Bw w W1):=uf B g;have l1:=ud b1;unfold Ha;go_wp2;rw[show(Obj.cells #[Uv S.a,Uv S.b,Uv S.c,Uv S.d] 191)=zA S from rfl];have L:=ua (At.e W1 S);have b4:(W1.alloc (zA S)).cell? (Ad w.heap.size 0)=some (Sl (Sm j l) n o):=uv _ b1;have B4:Hid (Bw w (W1.alloc (zA S))):=uf B1.o (wG W1);generalize W1.alloc (zA S)=W4 at *;obtain⟨sb,aa⟩:=nm W1.heap.size;rw[aa]at L;rw[aa];go_loopw [10] (λJ wr=>V9 w W4 n (λp=>M.Pk (RU U) n p p) J wr) (λJ _=>n-(intOf J).toNat)
 ·exact⟨0,wP,rfl,λq I=>aB I Ct,wI _⟩
 obtain⟨k,hk,rfl,ab,z⟩:=hrel;have t:=ua ab;have P:=ua z;have C:=ua (uf B4 z);have N:=ua (L.q z);have bk:=ue b4 z;obtain⟨m0,m1,m2,m3⟩:=N.c;have ls:=N.lt;by_cases G:k<n
 ·by_cases hg:S.h k=true
  ·have HG:Hid (S.h k=true):=hg;go_wp2_with (go_at_call 139;refine(qt S k R oM).mono ?_;rintro e W ⟨rfl,g⟩;have s:Hid (Bw wr W):=g;clear g);go_roundw
   ·exact⟨k+1,oM,by go_num,λq I h=>if e:q=k then (by subst e;have y:=((M.lH E HL G).2 h).1;rw[HG.o]at y;cases y) else t q oM h,uf P s⟩
   simp[intOf];omega
  have ae:S.h k=false:=by simpa using hg
  go_wp2_with fail;refine(qt S k R oM).mono ?_;rintro e W ⟨rfl,g⟩;have s:=ua g;have ad:=ue bk g;go_wp2_with fail;refine(V2 j l n o k U _ ((D.q C).q s) u H G E).mono ?_;rintro e W7 ⟨⟨r,rfl,hr⟩,g⟩;have O:=ua (uf s g);have Q:=ua hr;cases r with
  |false =>
   go_wp2;go_roundw
   ·exact⟨k+1,oM,by go_num,λq I h=>if e:q=k then (by subst e;have y:=Q.2 h;cases y) else t q oM h,uf P O⟩
   simp[intOf];omega
  |true =>
   go_wp2;go_ret;exact⟨.inl ⟨k,G,Q.1 (by trivial),t,rfl⟩,uf C O⟩
 obtain rfl:k=n:=oM;go_wp2;go_ret;exact⟨.inr ⟨t,rfl⟩,C⟩
end
end Go.Proofs.YtoihadcablknpaaGreatDoor
