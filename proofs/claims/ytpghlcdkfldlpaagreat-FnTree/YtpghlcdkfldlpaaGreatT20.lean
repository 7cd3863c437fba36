import Derived.Test.YtpghlcdkfldlpaaGreatT19
import Derived.Test.YtpghlcdkfldlpaaGreatT13
set_option linter.unusedVariables false
set_option linter.unusedSimpArgs false
set_option maxHeartbeats 40000000
set_option maxRecDepth 100000
namespace Go.Proofs.YtpghlcdkfldlpaaGreat
open Go.RowKit
open M (OpD ue Gr)
def unL(g:Gr)(p:Nat):Prop:=(nd g p).bl=0\/M.BodyOK g.nr g.nb (nd g p).bl (nd g p).body
theorem upr B n(h:M.Fed B n)(a:0<n):1<=M.dep B n:=by
 obtain⟨q,rfl⟩:∃q,n=q+1:=⟨n-1,by omega⟩;have:=h q (by omega);rw[M.dep];omega
theorem jV{α}[Inhabited α](f:OpD->α->α->α)(B:Nat->OpD)(n:Nat)(h:M.Shape n B):M.stk f B n=(0,M.top (M.stk f B n))::M.stk f B 0:=by
 have d:M.Fed B n:=h.1;have c:=M.stk_len f B n d;rw[h.2]at c;match hs:M.stk f B n with
 |[]=>rw[hs]at c;simp at c
 |[(s,x)] =>
  obtain⟨i,g,_⟩:=M.stk_cons f B n d s x _ hs;have l2:=M.stk_len f B s (d.less (by omega));rw[<-g]at l2;have:s=0:=by
   by_cases e:s=0
   ·exact e
   have:=upr B s (d.less (by omega)) (by omega);simp at l2;omega
  subst this;rfl
 |a::b::r=>rw[hs]at c;simp at c;omega
structure uq9(Q:Nat->Prop)(d:ue)(w:World)(e:Ending)(w':World):Prop where
 val:∃a c,e=.returned (.slice a d.bl c)/\OpsA Q w' a d.bl d.body/\d.bl<=c
 bel:Below w.heap.size w w'
theorem qu Q q la u lc g w(o:GramX Q w q la g)(v:g.nr<=100)(x:g.nb<=100)p(z:p<g.nr+g.nb) :
  Calls Tryz.prog 54 #[.agg #[.slice q g.nr u,.slice la g.nb lc],.int .i64 (p:Int)] w (uq9 Q (nd g p) w):=by
 by_cases e:p<g.nr
 ·rw[yd g e];rcases o.rules with r|⟨b,off,rfl,t,k⟩
  ·omega
  obtain⟨⟨_,⟨c,d,a,m⟩⟩,⟨ba,bc,f,n⟩⟩:=k p e;have l:c=ba/\d=bc:=by rw[f]at a;simp at a;exact⟨a.1.symm,a.2.symm⟩
  obtain⟨rfl,rfl⟩:=l;have h:=ua m;have s:=ub f;have j:=ua n;go_enter Tryz.func54,Tryz.ntmps54;go_wp2;go_ret;exact⟨⟨c,d,rfl,h.later (uf w _),j⟩,uf w _⟩
 obtain⟨i,rfl⟩:∃i,p=g.nr+i:=⟨p-g.nr,by omega⟩;rw[xE];rcases o.labs with r|⟨b,off,rfl,t,k⟩
 ·omega
 obtain⟨⟨_,_,⟨c,d,a,m⟩⟩,⟨ba,bc,f,n⟩⟩:=k i (by omega);have l:c=ba/\d=bc:=by rw[f]at a;simp at a;exact⟨a.1.symm,a.2.symm⟩
 obtain⟨rfl,rfl⟩:=l;have h:=ua m;have s:=ub f;have j:=ua n;have y:i<g.nb:=by omega
 have A:¬((g.nr+i:Nat):Int)<(g.nr:Int):=by omega
 have B:((g.nr+i:Nat):Int)-(g.nr:Int)=(i:Int):=by omega
 go_enter Tryz.func54,Tryz.ntmps54;go_wp2;go_ret;exact⟨⟨c,d,rfl,h.later (uf w _),j⟩,uf w _⟩
theorem uhz b la nr c a lc w(d:nr<=100)(f:a<=100) :
  Calls Tryz.prog 53 #[.agg #[.slice b nr c,.slice la a lc]] w λe w'=>e=.returned (.int .i64 ((nr+a:Nat):Int))/\Below w.heap.size w w':=by
 go_enter Tryz.func53,Tryz.ntmps53;go_wp2;go_ret;exact⟨uC (by omega),uf w _⟩
open M (TX b1 grp bindK)
theorem uhC k:decide (bindK k<2)=((k==4)||(k==5)):=by
 unfold bindK;by_cases a:k=4
 ·simp[a]
 by_cases b:k=5
 ·simp[b]
 by_cases c:k=6
 ·simp[c]
 by_cases d:k=7
 ·simp[d]
 simp[a,b,c,d]
theorem uhD k:decide (bindK k<1)=(k==5):=by
 unfold bindK;by_cases a:k=4
 ·simp[a]
 by_cases b:k=5
 ·simp[b]
 by_cases c:k=6
 ·simp[c]
 by_cases d:k=7
 ·simp[d]
 simp[a,b,c,d]
theorem unO k(e:0<=k)(a:k<=7):decide (bindK k<4)=decide (4<=k):=by
 unfold bindK;by_cases b:k=4
 ·simp[b]
 by_cases c:k=5
 ·simp[c]
 by_cases d:k=6
 ·simp[d]
 by_cases a:k=7
 ·simp[a]
 simp[b,c,d,a];omega
theorem xY{s:ByteArray}{ι:Type}{F:ι->World}{w}{f:FuncId}{args:Array Value}{n:ι}(a:Below w.heap.size w (F n))(b:∀W,Below w.heap.size w W->∃n,W=F n)(h:Calls Tryz.prog f args (F n) (yf s (F n))):Calls Tryz.prog f args (F n) λe c=>e=.returned (.string s)/\∃m,c=F m :=
 h.mono λe W q=>⟨q.1,b W (ud a q.2)⟩
theorem jp{a b}(h:a=b):Ending.returned (.string a)=.returned (.string b):=by rw[h]
theorem jW{g}(j:M.Sound g){B a lo x r}(f:M.Fed B a)(e:∀i,i<a->M.ElemOK g.nr g.nb (B i))(h:M.stk (uL g) B a=(lo,x)::r)(m:a<=2000):x.text.size<=2420000:=by
 have c:=udQ j B a e (lo,x) (by rw[h];simp);have k:=M.text_size x c;have d:=uni g B a f;have b:=uqW (l:=M.stk (uL g) B a) (p:=(lo,x)) (by rw[h];simp);rw[d]at b;simp only at b;omega
theorem ud6 Q C la G lc g(hV:M.Sound g)b off N B(hN:N<=2000)(bm:∀i,i<N->M.ElemOK g.nr g.nb (B i))f:∀(lo o c l:Nat) (x:TX) (w:World),f<=N->M.Fed B f->M.stk (uL g) B f=(lo,x)::M.stk (uL g) B lo->o=off+lo*3->l+lo=f->l<=c ->
   (∀i,i<N->OpC Q w b (off+i*3) (B i))->GramA Q w C la g ->
   Calls Tryz.prog 46 #[.agg #[.slice C g.nr G,.slice la g.nb lc],.slice (some ⟨b,o,none⟩) l c] w (yf x.text w):=by
 induction f using Nat.strongRecOn with
 |_ f ih =>
  intro lo o c l x w ca d bo ho hl hc hB hG;obtain⟨b2,_,_⟩:=M.stk_cons _ B f d lo x _ bo;obtain⟨q,rfl⟩:∃q,f=q+1:=⟨f-1,by omega⟩;have IH:Hid (∀m,m<q+1->∀(lo o c l:Nat) (x:TX) (w:World),m<=N->M.Fed B m->M.stk (uL g) B m=(lo,x)::M.stk (uL g) B lo->o=off+lo*3->l+lo=m->l<=c ->
   (∀i,i<N->OpC Q w b (off+i*3) (B i))->GramA Q w C la g ->
   Calls Tryz.prog 46 #[.agg #[.slice C g.nr G,.slice la g.nb lc],.slice (some ⟨b,o,none⟩) l c] w (yf x.text w)):=ih
  have L:=ua hB;have HG:=ua hG;have HK:=ua bm;have u:=ua d;have Y:=ua bo;have HV:=ua hV;have h1:=hV.r2;have h2:=hV.l2;obtain⟨m,rfl⟩:∃m,l=m+1:=⟨l-1,by omega⟩;have hm:m+lo=q:=by omega
  obtain⟨c0,⟨U,V,c1,bt⟩,c2⟩:=hB q (by omega);have eo:off+q*3=o+m*3:=by omega
  rw[eo]at c0 c1 c2;have b7:=ub c0;have hE:=bm q (by omega);have HE:=ua hE;have k0:=hE.1;have k7:=hE.2.1;have b6:=hE.2.2.2.2.1;have bw:=ua bt;have x2:((m+1:Nat):Int)-1=(m:Int):=by omega
  have x3:(m:Int)<((m+1:Nat):Int):=by omega
  have x4:m+1<=2000:=by omega
  have cb:=b2;clear hB bm d bo ih bt hE hG hV;have O:Hid (o=off+lo*3):=ho;have I:Hid (m+lo=q):=hm;clear ho hm hl;by_cases P:(B q).kind=0
  ·have k:Hid (x=.empty):=(by show _=_;rw[xT _ B q lo x (by simp[M.ar,P]) Y.out];simp[uL,M.nodeT,P]);have f0:((B q).kind==0)=true:=(by simp[P]);clear P;go_enter Tryz.func46,Tryz.ntmps46;go_wp2;go_ret;exact⟨by rw[k.out];rfl,vb w _ _⟩
  have n0:((B q).kind==0)=false:=by simp[P]
  by_cases R:(B q).kind=1
  ·have k:Hid (x=.set (B q).sl (B q).set):=(by show _=_;rw[xT _ B q lo x (by simp[M.ar,R]) Y.out];simp[uL,M.nodeT,R]);have f1:((B q).kind==1)=true:=(by simp[R]);have H:=ua (HE.2.2.1 R);clear R P;go_enter Tryz.func46,Tryz.ntmps46;go_wp2_with (go_at_call 81;refine(jw Q U (B q).sl V (B q).set _ (bw.later (vb w _ _)) H).mono ?_;rintro e W ⟨rfl,hb⟩;have HW:Hid (Below w.heap.size w W):=ud (vb w _ _) hb;clear hb);go_ret;exact⟨by rw[k.out];rfl,HW⟩
  have n1:((B q).kind==1)=false:=by simp[R]
  by_cases T:(B q).kind=2
  ·have k:Hid (x=.ref (jS g (B q).arg.toNat)):=(by show _=_;rw[xT _ B q lo x (by simp[M.ar,T]) Y.out];simp[uL,M.nodeT,T]);have f2:((B q).kind==2)=true:=(by simp[T]);have k6:=HE.2.2.2.2.2;unfold M.most at k6;rw[if_neg (by omega),if_pos T]at k6;obtain⟨j,hj⟩:∃j:Nat,(B q).arg=(j:Int):=⟨(B q).arg.toNat,by omega⟩;have HJ:Hid ((B q).arg.toNat=j):=(by show _=_;omega);rw[hj]at k6 c2;have bb:j<g.nr:=(by omega);have HR:=(HG.later (vb w (.cells #[.slice C g.nr G,.slice la g.nb lc] 28) (.cells #[.int .i64 (B q).kind,.slice U (B q).sl V,.int .i64 (j:Int)] 123))).rules;rcases HR with h0|⟨rb,ro,rfl,hq,hR⟩
   ·omega
   obtain⟨⟨na,nc,d0,hn⟩,_⟩:=hR j bb;have bl:=vD Q na (g.rule j).nl nc (g.rule j).name _ hn;have HN:Hid (jS g j=str (g.rule j).nl (g.rule j).name):=rfl;generalize str (g.rule j).nl (g.rule j).name=s at bl HN;have b0:=ub d0;clear hR hn P R T hj;go_enter Tryz.func46,Tryz.ntmps46;go_wp2;go_ret;exact⟨jp (by rw[k.out,HJ.out,M.TX.text,HN.out]),vb w _ _⟩
  have n2:((B q).kind==2)=false:=by simp[T]
  by_cases Z:(B q).kind=3
  ·have k:Hid (x=.thr (jl g (B q).arg.toNat)):=(by show _=_;rw[xT _ B q lo x (by simp[M.ar,Z]) Y.out];simp[uL,M.nodeT,Z]);have f3:((B q).kind==3)=true:=(by simp[Z]);have k6:=HE.2.2.2.2.2;unfold M.most at k6;rw[if_pos Z]at k6;obtain⟨j,hj⟩:∃j:Nat,(B q).arg=(j:Int):=⟨(B q).arg.toNat,by omega⟩;have HJ:Hid ((B q).arg.toNat=j):=(by show _=_;omega);rw[hj]at k6 c2;have bb:j<g.nb:=(by omega);have HR:=(HG.later (vb w (.cells #[.slice C g.nr G,.slice la g.nb lc] 28) (.cells #[.int .i64 (B q).kind,.slice U (B q).sl V,.int .i64 (j:Int)] 123))).labs;rcases HR with h0|⟨rb,ro,rfl,hq,hR⟩
   ·omega
   obtain⟨⟨na,nc,d0,hn⟩,_⟩:=hR j bb;have bl:=vD Q na (g.lab j).nl nc (g.lab j).name _ hn;have HN:Hid (jl g j=str (g.lab j).nl (g.lab j).name):=rfl;have bu:=(xF HV bb).2;rw[HN.out]at bu;generalize str (g.lab j).nl (g.lab j).name=s at bl HN bu;have b0:=ub d0;have z1:¬9223372036854775807<1+s.size:=(by omega);clear hR hn P R T Z hj;go_enter Tryz.func46,Tryz.ntmps46;go_wp2;go_ret;exact⟨jp (by rw[k.out,HJ.out,M.TX.text,HN.out];rfl),vb w _ _⟩
  have n3:((B q).kind==3)=false:=by simp[Z]
  have bz:1<=M.ar (B q).kind:=by
   unfold M.ar;split
   ·omega
   split<;>omega
  have cc:lo<q:=by
   rcases M.ar_cases (B q).kind with h|h|h
   ·omega
   ·exact(kH _ B q lo x u h Y).choose_spec.1
   obtain⟨s,y,z,h3,h4,_⟩:=xJ _ B q lo x u h Y;omega
  obtain⟨j,rfl⟩:∃j,m=j+1:=⟨m-1,by have:=I.out;omega⟩;obtain⟨d0,_,_⟩:=L (q-1) (by omega);have bx:off+(q-1)*3=o+j*3:=by have:=I;have:=O;omega
  rw[bx]at d0;have bk:=HK (q-1) (by omega);have y0:=bk.1;have y7:=bk.2.1;have x5:((j+1+1:Nat):Int)-2=(j:Int):=by omega
  have x6:(j:Int)<((j+1+1:Nat):Int):=by omega
  have a9:Hid (∀s y r,M.stk (uL g) B q=(s,y)::r->y.bind=bindK (B (q-1)).kind):=λs y r h=>udR g B q s y r (u.less (by omega)) h
  generalize (B (q-1)).kind=v at *;clear bk bz;have z6:=ux (j+1) (by omega);have b8:j+1<c:=by omega
  have hcj':j+1<=c:=by omega
  have b9:¬c=0:=by omega
  have bX:Below w.heap.size w ((w.alloc (.cells #[.slice C g.nr G,.slice la g.nb lc] 28)).alloc (.cells #[.int .i64 (B q).kind,.slice U (B q).sl V,.int .i64 (B q).arg] 123)):=vb w _ _;have ag:((w.alloc (.cells #[.slice C g.nr G,.slice la g.nb lc] 28)).alloc (.cells #[.int .i64 (B q).kind,.slice U (B q).sl V,.int .i64 (B q).arg] 123)).cell? ⟨w.heap.size,0,none⟩=some (.slice C g.nr G):=uc (cN w.heap.size rfl rfl) (uf _ _);have ah:((w.alloc (.cells #[.slice C g.nr G,.slice la g.nb lc] 28)).alloc (.cells #[.int .i64 (B q).kind,.slice U (B q).sl V,.int .i64 (B q).arg] 123)).cell? ⟨w.heap.size,1,none⟩=some (.slice la g.nb lc):=uc (cN w.heap.size rfl rfl) (uf _ _);have xk:((w.alloc (.cells #[.slice C g.nr G,.slice la g.nb lc] 28)).alloc (.cells #[.int .i64 (B q).kind,.slice U (B q).sl V,.int .i64 (B q).arg] 123)).cell? ⟨w.heap.size+1,0,none⟩=some (.int .i64 (B q).kind):=cN (w.heap.size+1) (by simp) rfl;by_cases e6:(B q).kind=6
  ·have f6:((B q).kind==6)=true:=(by simp[e6]);obtain⟨z,_,aa,a3⟩:=kH _ B q lo x u (by simp[M.ar,e6]) Y;have ae:=ua aa;have bp:=jW HV (u.less (by omega)) (λi f=>HK i (by omega)) aa (by omega);have k:Hid (x.text=grp (decide (4<=v)) z.text++b1 42):=by
    show _=_;rw[a3,show uL g (B q) z default=.star z by simp[uL,M.nodeT,e6],M.TX.text,a9.out lo z _ aa,unO v y0 y7]
   have ap:=M.grp_size (decide (4<=v)) z.text;have a7:Hid (z.text.size<=16000000):=(by show _<=_;omega);obtain⟨pk,b4⟩:=nm (decide (4<=v));rw[b4]at k ap;obtain⟨zt,J⟩:=nm (grp pk z.text);have ad:=ua J;rw[J]at k ap;have w1:¬9223372036854775807<zt.size+1:=(by omega);clear aa a3 P R T Z e6 J;go_enter Tryz.func46,Tryz.ntmps46;go_wp2_with fail;generalize (w.alloc (.cells #[.slice C g.nr G,.slice la g.nb lc] 28)).alloc (.cells #[.int .i64 (B q).kind,.slice U (B q).sl V,.int .i64 (B q).arg] 123)=X at *;have D:=ua bX;clear bX c0 c1 c2 d0;obtain⟨ι,am,F,d,t⟩:=jz X;have v0:∀n,(F n).cell? ⟨w.heap.size,0,none⟩=some (.slice C g.nr G):=λn=>uc ag (d n)
   have v1:∀n,(F n).cell? ⟨w.heap.size,1,none⟩=some (.slice la g.nb lc):=λn=>uc ah (d n)
   have H:=ua (t _ (Below.refl _ X).drew);have a:=ua d;have E:=ua t;clear d t;refine uE F (by kernel_rfl) (by kernel_rfl) H ?_;repeat (go_big_quiet_step (first|(go_at_call 46;exact xY (a _) E (IH q (by omega) lo _ _ _ z _ (by omega) (u.less (by omega)) ae O I hcj' (λi f=>(L i f).later (ud D (a _))) (HG.later (ud D (a _)))))|(go_at_call 82;exact xY (a _) E (ad.out▸uX z.text pk _ a7))))
   refine wpQuiet_nil ?_;rintro _ ⟨A,rfl⟩;go_wp2;go_ret;exact⟨jp (by rw[k.out];rfl),ud D (a A)⟩
  have n6:((B q).kind==6)=false:=by simp[e6]
  by_cases e7:(B q).kind=7
  ·have f7:((B q).kind==7)=true:=(by simp[e7]);obtain⟨z,_,aa,a3⟩:=kH _ B q lo x u (by simp[M.ar,e7]) Y;have ae:=ua aa;have bp:=jW HV (u.less (by omega)) (λi f=>HK i (by omega)) aa (by omega);have k:Hid (x.text=b1 33++grp ((v==4)||(v==5)) z.text):=by
    show _=_;rw[a3,show uL g (B q) z default=.not z by simp[uL,M.nodeT,e7],M.TX.text,a9.out lo z _ aa,uhC v]
   have ap:=M.grp_size ((v==4)||(v==5)) z.text;have a7:Hid (z.text.size<=16000000):=(by show _<=_;omega);obtain⟨p4,bc⟩:=nm (v==4);obtain⟨p5,aq⟩:=nm (v==5);rw[bc,aq]at k ap;clear aa a3 P R T Z e6 e7;go_enter Tryz.func46,Tryz.ntmps46;go_wp2_with fail;generalize (w.alloc (.cells #[.slice C g.nr G,.slice la g.nb lc] 28)).alloc (.cells #[.int .i64 (B q).kind,.slice U (B q).sl V,.int .i64 (B q).arg] 123)=X at *;have D:=ua bX;clear bX c0 c1 c2 d0;obtain⟨ι,am,F,d,t⟩:=jz X;have v0:∀n,(F n).cell? ⟨w.heap.size,0,none⟩=some (.slice C g.nr G):=λn=>uc ag (d n)
   have v1:∀n,(F n).cell? ⟨w.heap.size,1,none⟩=some (.slice la g.nb lc):=λn=>uc ah (d n)
   have H:=ua (t _ (Below.refl _ X).drew);have a:=ua d;have E:=ua t;clear d t;cases p4 with
   |true =>
    obtain⟨zt,J⟩:=nm (grp true z.text);have ad:=ua J;rw[Bool.true_or,J]at k ap;have w1:¬9223372036854775807<1+zt.size:=(by omega);clear J;refine uE F (by kernel_rfl) (by kernel_rfl) H ?_;repeat (go_big_quiet_step (first|(go_at_call 46;exact xY (a _) E (IH q (by omega) lo _ _ _ z _ (by omega) (u.less (by omega)) ae O I hcj' (λi f=>(L i f).later (ud D (a _))) (HG.later (ud D (a _)))))|(go_at_call 82;exact xY (a _) E (ad.out▸uX z.text true _ a7))))
    refine wpQuiet_nil ?_;rintro _ ⟨A,rfl⟩;go_wp2;go_ret;exact⟨jp (by rw[k.out];rfl),ud D (a A)⟩
   |false =>
    obtain⟨zt,J⟩:=nm (grp p5 z.text);have ad:=ua J;rw[Bool.false_or,J]at k ap;have w1:¬9223372036854775807<1+zt.size:=(by omega);clear J;refine uE F (by kernel_rfl) (by kernel_rfl) H ?_;repeat (go_big_quiet_step (first|(go_at_call 46;exact xY (a _) E (IH q (by omega) lo _ _ _ z _ (by omega) (u.less (by omega)) ae O I hcj' (λi f=>(L i f).later (ud D (a _))) (HG.later (ud D (a _)))))|(go_at_call 82;exact xY (a _) E (ad.out▸uX z.text p5 _ a7))))
    refine wpQuiet_nil ?_;rintro _ ⟨A,rfl⟩;go_wp2;go_ret;exact⟨jp (by rw[k.out];rfl),ud D (a A)⟩
  have n7:((B q).kind==7)=false:=by simp[e7]
  by_cases e4:(B q).kind=4
  ·have f4:((B q).kind==4)=true:=(by simp[e4]);have ax:M.ar (B q).kind=2:=(by simp[M.ar,e4]);obtain⟨s,y,z,a1,a2,ab,ac,hx,bh,aw⟩:=xJ _ B q lo x u ax Y;obtain⟨p,hp⟩:∃p,s=lo+(p+1):=⟨s-lo-1,by omega⟩;have HP:=ua hp;have bn:p+1<j+1:=(by have:=I.out;omega);have hpj':((p+1:Nat):Int)<((j+1:Nat):Int):=(by omega);have b3:((p+1:Nat):Int)<=((j+1:Nat):Int):=(by omega);obtain⟨dk,_,_⟩:=L (s-1) (by omega);have bi:off+(s-1)*3=o+p*3:=(by have:=O.out;omega);rw[bi]at dk;have bq:Hid (z.bind=bindK (B (s-1)).kind):=udR g B s lo z _ (u.less (by omega)) ac;have bj:=HK.out (s-1) (by omega);generalize (B (s-1)).kind=kx at *;clear bj;have x8:((p+1:Nat):Int)-1=(p:Int):=(by omega);have x9:(p:Int)<((j+1+1:Nat):Int):=(by omega);have d1':Hid (M.dep (λi=>B (lo+i)) (p+1)+1=M.dep (λi=>B (lo+i)) (j+1)):=by
    show _=_;rw[vy,vy,<-hp,show lo+(j+1)=q by have:=I.out;omega];omega
   have d2':Hid (∀i,p+1<i->i<=j+1->M.dep (λi=>B (lo+i)) (j+1)<=M.dep (λi=>B (lo+i)) i):=λi h3 h4=>by
    rw[vy,vy,show lo+(j+1)=q by have:=I.out;omega];have:=aw (lo+i) (by omega) (by have:=I;omega);omega
   have ae:=ua ab;have bg:=ua ac;have aj:Hid (lo<s/\s<q):=⟨a1,a2⟩;have bf:Hid (∀W,Below w.heap.size w W->∀i,i<j+1+1->OpC Q W b (o+i*3) (B (lo+i))):=λW hW i f=>by
    have:=(L (lo+i) (by have:=I;omega)).later hW;rw[show off+(lo+i)*3=o+i*3 by have:=O.out;omega]at this;exact this
   have b5:=jW HV (u.less (by omega)) (λi f=>HK i (by omega)) ab (by omega);have bp:=jW HV (u.less (by omega)) (λi f=>HK i (by omega)) ac (by omega);have a8:Hid (y.text.size<=16000000):=(by show _<=_;omega);have be:Hid (z.text.size<=16000000):=(by show _<=_;omega);have a0:=a9 s y _ ab;have k:Hid (x.text=grp (kx==5) z.text++b1 32++grp ((v==5)||(v==4)) y.text):=by
    show _=_;rw[hx,show uL g (B q) z y=.seq z y by simp[uL,M.nodeT,e4],M.TX.text,a0,bq.out,uhD kx,uhC v,Bool.or_comm]
   have br:=M.grp_size (kx==5) z.text;have az:=M.grp_size ((v==5)||(v==4)) y.text;obtain⟨px,bs⟩:=nm (kx==5);obtain⟨p5,aq⟩:=nm (v==5);obtain⟨p4,bc⟩:=nm (v==4);rw[bs,aq,bc]at k;rw[bs]at br;rw[aq,bc]at az;obtain⟨zt,J⟩:=nm (grp px z.text);have ad:=ua J;rw[J]at k br;obtain⟨yt,ao⟩:=nm (grp (p5||p4) y.text);have ba:=ua ao;rw[ao]at k az;have w1:¬9223372036854775807<zt.size+1:=(by omega);have w2:¬9223372036854775807<zt.size+1+yt.size:=(by omega);have z1:¬c=p+1:=(by omega);have z2:p+1<=j+1:=(by omega);have z4:p+1<=c:=(by omega);have z7:=ux (p+1) (by omega);clear ab ac hx bh aw hp a1 a2 ax a0 P R T Z e4 J ao;go_enter Tryz.func46,Tryz.ntmps46;go_wp2_with fail;refine(xd b o (j+1+1) c (λi=>B (lo+i)) _ Q (bf _ (vb w _ _)) (by omega) (j+1) (p+1) (by omega) bn d1' d2').mono ?_;rintro e W ⟨rfl,hw⟩;subst W;go_wp2_with fail;generalize (w.alloc (.cells #[.slice C g.nr G,.slice la g.nb lc] 28)).alloc (.cells #[.int .i64 (B q).kind,.slice U (B q).sl V,.int .i64 (B q).arg] 123)=X at *;have D:=ua bX;clear bX c0 c1 c2 d0 dk;obtain⟨ι,am,F,d,t⟩:=jz X;have v0:∀n,(F n).cell? ⟨w.heap.size,0,none⟩=some (.slice C g.nr G):=λn=>uc ag (d n)
   have v1:∀n,(F n).cell? ⟨w.heap.size,1,none⟩=some (.slice la g.nb lc):=λn=>uc ah (d n)
   have H:=ua (t _ (Below.refl _ X).drew);have a:=ua d;have E:=ua t;clear d t;refine uE F (by kernel_rfl) (by kernel_rfl) H ?_;repeat (go_big_quiet_step (first|(go_at_call 46;exact xY (a.out _) E.out (IH.out s (by have:=aj.out;omega) lo _ _ _ z _ (by have:=aj.out;omega) (u.out.less (by have:=aj.out;omega)) bg.out O.out (by have:=HP.out;omega) z4 (λi f=>(L.out i f).later (ud D.out (a.out _))) (HG.out.later (ud D (a _)))))))
   refine wpQuiet_nil ?_;rintro _ ⟨A,rfl⟩;obtain⟨W2,ak⟩:∃W2,F A=W2:=⟨_,rfl⟩;have S:Hid (Below X.heap.size X W2):=ak▸a.out A;rw[ak];clear ak v0 v1 H a E A;have a4:=uc ag S.out;have a5:=uc ah S.out;have yk:=uc xk S.out;clear ag ah xk am;clear F ι;go_wp2_with fail;obtain⟨ι,am,F,d,t⟩:=jz W2;have v0:∀n,(F n).cell? ⟨w.heap.size,0,none⟩=some (.slice C g.nr G):=λn=>uc a4 (d n)
   have v1:∀n,(F n).cell? ⟨w.heap.size,1,none⟩=some (.slice la g.nb lc):=λn=>uc a5 (d n)
   have H:Hid (∃n,W2.drew=F n):=t _ (Below.refl _ W2).drew;have a:Hid (∀n,Below W2.heap.size W2 (F n)):=d;have E:Hid (∀W,Below W2.heap.size W2 W->∃n,W=F n):=t;have ai:Hid (∀n,Below w.heap.size w (F n)):=λn=>ud (ud D.out S.out) (d n)
   clear d t;refine uE F (by kernel_rfl) (by kernel_rfl) H.out ?_;repeat (go_big_quiet_step (first|(go_at_call 46;exact xY (a.out _) E.out (IH.out q (by omega) s _ _ _ y _ (by omega) (u.out.less (by omega)) ae.out (by have:=O.out;have:=HP.out;omega) (by have:=I.out;have:=HP.out;omega) (by omega) (λi f=>(L.out i f).later (ai.out _)) (HG.out.later (ai.out _))))))
   refine wpQuiet_nil ?_;rintro _ ⟨A,rfl⟩;obtain⟨W3,al⟩:∃W3,F A=W3:=⟨_,rfl⟩;have au:Hid (Below W2.heap.size W2 W3):=al▸a.out A;rw[al];have uk:=uc yk au.out;clear al v0 v1 H a E ai A a4 a5 yk;have a6:Hid (Below w.heap.size w W3):=ud (ud D.out S.out) au.out;cases p5 with
   |true =>
    go_wp2_with (first|(go_at_call 82;refine(uX z.text px _ be.out).mono ?_;rintro e W4 ⟨rfl,ay⟩;have bd:Hid (Below w.heap.size w W4):=ud a6.out ay;clear ay;rw[ad.out])|(go_at_call 82;refine(uX y.text true _ a8.out).mono ?_;rintro e W5 ⟨rfl,af⟩;have av:Hid (Below w.heap.size w W5):=ud bd.out af;clear af;rw[show grp true y.text=yt from ba.out]));go_ret;exact⟨jp (by rw[k.out];rfl),av.out⟩
   |false =>
    go_wp2_with (first|(go_at_call 82;refine(uX z.text px _ be.out).mono ?_;rintro e W4 ⟨rfl,ay⟩;have bd:Hid (Below w.heap.size w W4):=ud a6.out ay;clear ay;rw[ad.out])|(go_at_call 82;refine(uX y.text p4 _ a8.out).mono ?_;rintro e W5 ⟨rfl,af⟩;have av:Hid (Below w.heap.size w W5):=ud bd.out af;clear af;rw[show grp p4 y.text=yt from ba.out]));go_ret;exact⟨jp (by rw[k.out];rfl),av.out⟩
  have e5:(B q).kind=5:=by omega
  have f4:((B q).kind==4)=false:=by simp[e4]
  have ax:M.ar (B q).kind=2:=by simp[M.ar,e5]
  obtain⟨s,y,z,a1,a2,ab,ac,hx,bh,aw⟩:=xJ _ B q lo x u.out ax Y.out;obtain⟨p,hp⟩:∃p,s=lo+(p+1):=⟨s-lo-1,by omega⟩;have HP:Hid (s=lo+(p+1)):=hp;have bn:p+1<j+1:=by have:=I.out;omega
  have hpj':((p+1:Nat):Int)<((j+1:Nat):Int):=by omega
  have b3:((p+1:Nat):Int)<=((j+1:Nat):Int):=by omega
  obtain⟨dk,_,_⟩:=L.out (s-1) (by omega);have bi:off+(s-1)*3=o+p*3:=by have:=O.out;omega
  rw[bi]at dk;have bq:Hid (z.bind=bindK (B (s-1)).kind):=udR g B s lo z _ (u.out.less (by omega)) ac;have bj:=HK.out (s-1) (by omega);generalize (B (s-1)).kind=kx at *;clear bj;have x8:((p+1:Nat):Int)-1=(p:Int):=by omega
  have x9:(p:Int)<((j+1+1:Nat):Int):=by omega
  have d1':Hid (M.dep (λi=>B (lo+i)) (p+1)+1=M.dep (λi=>B (lo+i)) (j+1)):=by
   show _=_;rw[vy,vy,<-hp,show lo+(j+1)=q by have:=I.out;omega];omega
  have d2':Hid (∀i,p+1<i->i<=j+1->M.dep (λi=>B (lo+i)) (j+1)<=M.dep (λi=>B (lo+i)) i):=λi h3 h4=>by
   rw[vy,vy,show lo+(j+1)=q by have:=I.out;omega];have:=aw (lo+i) (by omega) (by have:=I.out;omega);omega
  have ae:Hid (M.stk (uL g) B q=(s,y)::M.stk (uL g) B s):=ab;have bg:Hid (M.stk (uL g) B s=(lo,z)::M.stk (uL g) B lo):=ac;have aj:Hid (lo<s/\s<q):=⟨a1,a2⟩;have bf:Hid (∀W,Below w.heap.size w W->∀i,i<j+1+1->OpC Q W b (o+i*3) (B (lo+i))):=λW hW i f=>by
   have:=(L.out (lo+i) (by have:=I.out;omega)).later hW;rw[show off+(lo+i)*3=o+i*3 by have:=O.out;omega]at this;exact this
  have b5:=jW HV.out (u.out.less (by omega)) (λi f=>HK.out i (by omega)) ab (by omega);have bp:=jW HV.out (u.out.less (by omega)) (λi f=>HK.out i (by omega)) ac (by omega);have a8:Hid (y.text.size<=16000000):=by show _<=_;omega
  have be:Hid (z.text.size<=16000000):=by show _<=_;omega
  have a0:=a9.out s y _ ab;have k:Hid (x.text=z.text++⟨#[32,47,32]⟩++grp (v==5) y.text):=by
   show _=_;rw[hx,show uL g (B q) z y=.alt z y by simp[uL,M.nodeT,e5],M.TX.text,a0,uhD v]
  have az:=M.grp_size (v==5) y.text;obtain⟨p5,aq⟩:∃p:Bool,(v==5)=p:=⟨_,rfl⟩;rw[aq]at k az;obtain⟨yt,ao⟩:∃yt,grp p5 y.text=yt:=⟨_,rfl⟩;have ba:Hid (grp p5 y.text=yt):=ao;rw[ao]at k az;have w1:¬9223372036854775807<z.text.size+3:=by omega
  have w2:¬9223372036854775807<z.text.size+3+yt.size:=by omega
  have z1:¬c=p+1:=by omega
  have z2:p+1<=j+1:=by omega
  have z4:p+1<=c:=by omega
  have z7:=ux (p+1) (by omega);clear ab ac hx bh aw hp a1 a2 ax a0 P R T Z e4 e5 ao;go_enter Tryz.func46,Tryz.ntmps46;go_wp2_with fail;refine(xd b o (j+1+1) c (λi=>B (lo+i)) _ Q (bf.out _ (vb w _ _)) (by omega) (j+1) (p+1) (by omega) bn d1'.out d2'.out).mono ?_;rintro e W ⟨rfl,hw⟩;subst W;go_wp2_with fail;generalize (w.alloc (.cells #[.slice C g.nr G,.slice la g.nb lc] 28)).alloc (.cells #[.int .i64 (B q).kind,.slice U (B q).sl V,.int .i64 (B q).arg] 123)=X at *;have D:Hid (Below w.heap.size w X):=bX;clear bX c0 c1 c2 d0 dk;obtain⟨ι,am,F,d,t⟩:=jz X;have v0:∀n,(F n).cell? ⟨w.heap.size,0,none⟩=some (.slice C g.nr G):=λn=>uc ag (d n)
  have v1:∀n,(F n).cell? ⟨w.heap.size,1,none⟩=some (.slice la g.nb lc):=λn=>uc ah (d n)
  have H:Hid (∃n,X.drew=F n):=t _ (Below.refl _ X).drew;have a:Hid (∀n,Below X.heap.size X (F n)):=d;have E:Hid (∀W,Below X.heap.size X W->∃n,W=F n):=t;clear d t;refine uE F (by kernel_rfl) (by kernel_rfl) H.out ?_;repeat (go_big_quiet_step (first|(go_at_call 46;exact xY (a.out _) E.out (IH.out s (by have:=aj.out;omega) lo _ _ _ z _ (by have:=aj.out;omega) (u.out.less (by have:=aj.out;omega)) bg.out O.out (by have:=HP.out;omega) z4 (λi f=>(L.out i f).later (ud D.out (a.out _))) (HG.out.later (ud D.out (a.out _)))))))
  refine wpQuiet_nil ?_;rintro _ ⟨A,rfl⟩;obtain⟨W2,ak⟩:∃W2,F A=W2:=⟨_,rfl⟩;have S:Hid (Below X.heap.size X W2):=ak▸a.out A;rw[ak];clear ak v0 v1 H a E A;have a4:=uc ag S.out;have a5:=uc ah S.out;have yk:=uc xk S.out;clear ag ah xk am;clear F ι;go_wp2_with fail;obtain⟨ι,am,F,d,t⟩:=jz W2;have v0:∀n,(F n).cell? ⟨w.heap.size,0,none⟩=some (.slice C g.nr G):=λn=>uc a4 (d n)
  have v1:∀n,(F n).cell? ⟨w.heap.size,1,none⟩=some (.slice la g.nb lc):=λn=>uc a5 (d n)
  have H:Hid (∃n,W2.drew=F n):=t _ (Below.refl _ W2).drew;have a:Hid (∀n,Below W2.heap.size W2 (F n)):=d;have E:Hid (∀W,Below W2.heap.size W2 W->∃n,W=F n):=t;have ai:Hid (∀n,Below w.heap.size w (F n)):=λn=>ud (ud D.out S.out) (d n)
  clear d t;refine uE F (by kernel_rfl) (by kernel_rfl) H.out ?_;repeat (go_big_quiet_step (first|(go_at_call 46;exact xY (a.out _) E.out (IH.out q (by omega) s _ _ _ y _ (by omega) (u.out.less (by omega)) ae.out (by have:=O.out;have:=HP.out;omega) (by have:=I.out;have:=HP.out;omega) (by omega) (λi f=>(L.out i f).later (ai.out _)) (HG.out.later (ai.out _))))))
  refine wpQuiet_nil ?_;rintro _ ⟨A,rfl⟩;obtain⟨W3,al⟩:∃W3,F A=W3:=⟨_,rfl⟩;have au:Hid (Below W2.heap.size W2 W3):=al▸a.out A;rw[al];have uk:=uc yk au.out;clear al v0 v1 H a E ai A a4 a5 yk;have a6:Hid (Below w.heap.size w W3):=ud (ud D.out S.out) au.out;go_wp2_with (go_at_call 82;refine(uX y.text p5 _ a8.out).mono ?_;rintro e W5 ⟨rfl,af⟩;have av:Hid (Below w.heap.size w W5):=ud a6.out af;clear af;rw[ba.out]);go_ret;exact⟨jp (by rw[k.out]),av.out⟩
theorem ucA Q f la a h lc n c g(k:M.Sound g)B w(m:n<=2000)(l:n<=c)(e:OpsA Q w a n B)(d:M.BodyOK g.nr g.nb n B)(j:GramA Q w f la g) :
  Calls Tryz.prog 46 #[.agg #[.slice f g.nr h,.slice la g.nb lc],.slice a n c] w (yf (jT g n B).text w):=by
 have i:¬n=0:=λq=>by
  have:=d.2.2;rw[q,M.dep]at this;omega
 rcases e with q|⟨b,off,rfl,o,e⟩
 ·exact absurd q i
 exact ud6 Q f la h lc g k b off n B m d.1 n 0 off c n _ w (Nat.le_refl _) d.2.1 (jV _ B n d.2) (by omega) (by omega) l e j
def bT(s:ByteArray)(j:Nat):Int:=((s.data.toList.getD j 0).toNat:Int)
theorem ubc w s:∃a c W,(convert 9 22 (.string s)).run Tryz.prog w=.ok (.slice a s.size c) W/\Ints (λb=>b=w.heap.size) .u8 W a s.size (bT s)/\Below w.heap.size w W:=by
 have f:=Lib.run_convert_string_bytes (P:=Tryz.prog) w 9 22 5 s Tryz.underlying9 Tryz.underlying22 Tryz.underlying5;refine⟨_,_,_,f,.inr ⟨w.heap.size,0,rfl,rfl,λi d=>?_⟩,?_⟩
 ·rw[Nat.zero_add];exact Lib.bytesWorld_cell w 5 s i d
 refine⟨?_,?_,?_,by rw[Lib.bytesWorld_size];omega,λk e=>Lib.bytesWorld_at_old w 5 s k e⟩;all_goals rfl
end Go.Proofs.YtpghlcdkfldlpaaGreat
