import Derived.Test.YtoihadcablknpaaGreatDoorT04
set_option linter.unusedVariables false
set_option linter.unusedSimpArgs false
set_option linter.defProp false
set_option maxHeartbeats 40000000
set_option maxRecDepth 100000
namespace Go.Proofs.YtoihadcablknpaaGreatDoor
open Go.RowKit
open Go.Proofs.Tryz
open M (OpD uh Gr)
def xt ra la sa nr rc d lc sc o w(g:0<=o.f)(h:o.f<=1048576)(i:nr<=1048576) :
  Cs 138 #[.agg #[Sl ra nr rc,Sl la d lc],.agg #[Iv o.e,Sl sa o.sl sc,Iv o.f]] w λe w'=>e=Rt (Iv (M.tg nr o:Nat))/\Bw w w':=by
 by_cases a:o.e=3
 ·have c:(o.e==3)=true:=by simp[a]
  have b:=ua a;clear a;go_enter func138,ntmps138;go_wp2;go_ret;exact⟨uW (by unfold M.tg;rw[Zp b.o];omega),Bn w⟩
 have c:(o.e==3)=false:=by simp[a]
 have b:=ua a;clear a;go_enter func138,ntmps138;go_wp2;go_ret;exact⟨uW (by unfold M.tg;rw[Zn b.o];omega),Bn w⟩
def Uu(s:NS)(p:Nat)(w:Wl)(g:s.OK)(f:p<256) :
  Cs 140 #[.agg #[Uv s.a,Uv s.b,Uv s.c,Uv s.d],Iv p] w λe w'=>(∃t,t=s.k p/\e=Rt (.agg #[Uv t.a,Uv t.b,Uv t.c,Uv t.d]))/\Bw w w' :=
 (Y0 s p w g f).mono (λe w' h=>⟨⟨_,rfl,h.1⟩,h.2⟩)
def MS(s t:NS)(w:Wl)(f:s.OK)(g:t.OK) :
  Cs 141 #[.agg #[Uv s.a,Uv s.b,Uv s.c,Uv s.d],.agg #[Uv t.a,Uv t.b,Uv t.c,Uv t.d]] w λe w'=>(∃u,u=s.e t/\e=Rt (.agg #[Uv u.a,Uv u.b,Uv u.c,Uv u.d]))/\Bw w w' :=
 (NG s t w f g).mono (λe w' h=>⟨⟨_,rfl,h.1⟩,h.2⟩)
def kM(nr:Nat)(B:Nat->OpD):Nat->NS
 |0=>nz
 |k+1=>if M.bI (B k) then (kM nr B k).k (M.tg nr (B k)) else kM nr B k
def MT nr B k:(kM nr B k).OK:=by
 induction k with
 |zero=>exact NS.OK.f
 |succ k a =>
  rw[kM];split
  ·exact a.k _
  exact a
def W4 nr B k q(i:q<256)(g:∀j,j<k->M.bI (B j)->M.tg nr (B j)<256):(kM nr B k).h q=true↔M.dS nr k B q:=by
 induction k with
 |zero=>rw[kM,xD];simp[M.dS]
 |succ k f =>
  have f:=f (λj c=>g j oM);rw[kM];split
  ·rename_i d;rw[qT (g k oM d) i];simp only[Ma,f,beq_iff_eq];constructor
   ·rintro (⟨j,c,h⟩|rfl)
    ·exact⟨j,oM,h⟩
    exact⟨k,oM,d,rfl⟩
   rintro⟨j,c,a,b⟩;by_cases e:j=k
   ·subst e;exact .inr b.symm
   exact .inl ⟨j,oM,a,b⟩
  rename_i d;rw[f];constructor
  ·rintro⟨j,c,h⟩;exact⟨j,oM,h⟩
  rintro⟨j,c,a,b⟩;by_cases e:j=k
  ·subst e;exact aB a d
  exact⟨j,oM,a,b⟩
def AY{nr b o}(h:M.bE nr b o)(c:M.bI o):M.tg nr o<nr+b:=by
 obtain⟨_,_,_,_,d,a⟩:=h;unfold M.tg;unfold M.bM at a;rcases c with e|e
 ·rw[Zn oM];rw[Zn oM,Zp e]at a;omega
 rw[Zp e];rw[Zp e]at a;omega
def At(w:Wl)(b:Nat)(s:NS):Prop:=w.heap[b]?=some (zA s)
def At.c{w b s}(h:At w b s):w.cell? (Ad b 0)=some (Uv s.a)/\w.cell? (Ad b 1)=some (Uv s.b)/\w.cell? (Ad b 2)=some (Uv s.c)/\w.cell? (Ad b 3)=some (Uv s.d):=by
 unfold At at h;simp[World.cell?,h,zA]
def At.s{w b s}(h:At w b s):w.frozen? (Ad b 0)=false/\w.frozen? (Ad b 1)=false/\w.frozen? (Ad b 2)=false/\w.frozen? (Ad b 3)=false:=by
 unfold At at h;simp[World.frozen?,h,zA]
def At.lt{w b s}(h:At w b s):b<w.heap.size:=(Cq.1 h).1
def At.e(w:Wl)(s:NS):At (w.alloc (zA s)) w.heap.size s:=Df w (zA s)
def At.q{w w' b s}(h:At w b s)(k:Bw w w'):At w' b s:=(k.block b h.lt).trans h
def At.m{w w' b s}(h:At w b s)(k:w'.heap[b]?=w.heap[b]?):At w' b s:=k.trans h
def Hz(w:Wl)(b:Nat)(s:NS):Wl:=(((w.setCell (Ad b 0) (Uv s.a)).setCell (Ad b 1) (Uv s.b)).setCell (Ad b 2) (Uv s.c)).setCell (Ad b 3) (Uv s.d)
def qS{w:Wl}{b:Nat}{cs:Av}{t:TypeId}(h:w.heap[b]?=some (Oc cs t))(o:Nat)(v:Vl):(w.setCell (Ad b o) v).heap[b]?=some (Oc (cs.setIfInBounds o v) t):=by
 have a:=(Cq.1 h).1;simp[World.setCell,Om,h]
def At.set{w b s}(h:At w b s)t:At (Hz w b t) b t :=
 qS (qS (qS (qS h 0 (Uv t.a)) 1 (Uv t.b)) 2 (Uv t.c)) 3 (Uv t.d)
def W5 w b s:(Hz w b s).heap.size=w.heap.size:=by simp[Hz,World.setCell]
def AZ w b s k(h:k≠b):(Hz w b s).heap[k]?=w.heap[k]?:=by
 unfold Hz;rw[zJ k (λe=>h e),zJ k (λe=>h e),zJ k (λe=>h e),zJ k (λe=>h e)]
def ko{B w w'}(h:Below B w w')b s(c:B<=b):Below B w (Hz w' b s) :=
 ⟨h.os,h.tape,h.output,by rw[W5];exact h.size,λk a=>(AZ w' b s k oM).trans (h.block k a)⟩
def W6(W:Wl)(b nr n:Nat)(B:Nat->OpD)(i:Vl)(wr:Wl):Prop :=
 ∃k:Nat,k<=n/\i=Iv (k:Int)/\At wr b (kM nr B k)/\Below b W wr
def W7{nr B k}(h:¬M.bI (B k)):kM nr B (k+1)=kM nr B k:=by rw[kM,Zn h]
def W8{nr B k}(h:M.bI (B k)):kM nr B (k+1)=(kM nr B k).k (M.tg nr (B k)):=by rw[kM,Zp h]
def W9{W1 wr X W2 a b u}(c:Below b W1 wr)(d:Bw wr X)(e:Bw X W2)(f:Bw W2 a)(g:At wr b u)t:Below b W1 (Hz a b t) :=
 ko (c.trans ((uf (uf d e) f).mono (Nat.le_of_lt g.lt))) b t wF
def X0 Q ra la a nr rc d lc n c B w(j:wT Q w a n B)(R:∀i,i<n->M.bE nr d (B i))(hn:n<=1048576)(h1:nr<=100)(h2:d<=100) :
  Cs 133 #[.agg #[Sl ra nr rc,Sl la d lc],Sl a n c] w λe w'=>e=Rt (Ha (kM nr B n))/\Bw w w':=by
 have W:=ua j;have HK:=ua R;clear j R;go_enter func133,ntmps133;go_wp2;have G:(((w.alloc (Oc #[Sl ra nr rc,Sl la d lc] 37)).alloc (zA nz)).alloc (zA nz)).cell? (Ad w.heap.size 0)=some (Sl ra nr rc):=ue (ue (cN w.heap.size rfl rfl) (wG _)) (wG _);have H:(((w.alloc (Oc #[Sl ra nr rc,Sl la d lc] 37)).alloc (zA nz)).alloc (zA nz)).cell? (Ad w.heap.size 1)=some (Sl la d lc):=ue (ue (cN w.heap.size rfl rfl) (wG _)) (wG _);have o:At (((w.alloc (Oc #[Sl ra nr rc,Sl la d lc] 37)).alloc (zA nz)).alloc (zA nz)) (w.heap.size+1) nz:=by
  have:=At.e (w.alloc (Oc #[Sl ra nr rc,Sl la d lc] 37)) nz;rw[zV]at this;exact this.q (wG _)
 have x:At (((w.alloc (Oc #[Sl ra nr rc,Sl la d lc] 37)).alloc (zA nz)).alloc (zA nz)) (w.heap.size+1+1) nz:=by
  have:=At.e ((w.alloc (Oc #[Sl ra nr rc,Sl la d lc] 37)).alloc (zA nz)) nz;rw[zV,zV]at this;exact this
 have O:Bw w (((w.alloc (Oc #[Sl ra nr rc,Sl la d lc] 37)).alloc (zA nz)).alloc (zA nz)):=Mp w _ _ _;have f5:(((w.alloc (Oc #[Sl ra nr rc,Sl la d lc] 37)).alloc (zA nz)).alloc (zA nz)).heap.size=w.heap.size+3:=sM;rw[show(Obj.cells #[Uv 0,Uv 0,Uv 0,Uv 0] 191)=zA nz from rfl];generalize (((w.alloc (Oc #[Sl ra nr rc,Sl la d lc] 37)).alloc (zA nz)).alloc (zA nz))=W1 at *;have S:=ua O;clear O;go_loopw [10] (λi wr=>W6 W1 (w.heap.size+1+1) nr n B i wr) (λi _=>n-(intOf i).toNat)
 ·exact⟨0,wP,rfl,x,wI _⟩
 obtain⟨k,hk,rfl,r,l⟩:=hrel;have A:=S.trans (l.mono oM);have g0:=(l.cell (p:=(Ad w.heap.size 0)) (Nat.lt_trans (Jb _) (Jb _))).trans G;have g1:=(l.cell (p:=(Ad w.heap.size 1)) (Nat.lt_trans (Jb _) (Jb _))).trans H;have z:=o.m (l.block _ oM);have D:=ua r;obtain⟨u0,u1,u2,u3⟩:=r.c;obtain⟨v0,v1,v2,v3⟩:=r.s;have hlt':=r.lt;have aa:=ua A;have L:=ua l;by_cases P:k<n
 ·have j:=W.q A;rcases j with h0|⟨b,off,rfl,hq,j⟩
  ·omega
  obtain⟨c0,⟨sa,sc,c1,hs⟩,c2⟩:=j k P;have af:=ud c0;clear j hs A l r z G H o x;have y:=HK k P;by_cases h:M.bI (B k)
  ·have E:Hid (M.bI (B k)):=h;have C:=AY y h;have ad:=y.2.2.2.2.1;have ae:(B k).f<=1048576:=by have:=y.2.2.2.2.2;unfold M.bM at this;split at this<;>(try split at this)<;>omega
   have HT:Hid (M.tg nr (B k)<256):=(by show _<_;omega);have HX:=ua (MT nr B k);clear y C;have ac:((B k).e==2)=true\/((B k).e==2)=false/\((B k).e==3)=true:=by rcases h with q|q<;>simp[q]
   clear h;have g:=uk wr (Oc #[Iv (B k).e,Sl sa (B k).sl sc,Iv (B k).f] 128);have x0:(wr.alloc (Oc #[Iv (B k).e,Sl sa (B k).sl sc,Iv (B k).f] 128)).cell? (Ad wr.heap.size 0)=some (Iv (B k).e):=cN wr.heap.size rfl rfl;have x1:(wr.alloc (Oc #[Iv (B k).e,Sl sa (B k).sl sc,Iv (B k).f] 128)).cell? (Ad wr.heap.size 1)=some (Sl sa (B k).sl sc):=cN wr.heap.size rfl rfl;have x2:(wr.alloc (Oc #[Iv (B k).e,Sl sa (B k).sl sc,Iv (B k).f] 128)).cell? (Ad wr.heap.size 2)=some (Iv (B k).f):=cN wr.heap.size rfl rfl;have ah:=ue g0 g;have ai:=ue g1 g;have aj:=ue u0 g;have ak:=ue u1 g;have al:=ue u2 g;have am:=ue u3 g;have V:=ua (D.o.q g);replace g:=ua g;rcases ac with o|⟨o,x⟩;all_goals go_wp2
   all_goals generalize wr.alloc (Oc #[Iv (B k).e,Sl sa (B k).sl sc,Iv (B k).f] 128)=X at *
   all_goals go_region_with (first|(go_at_call 138;refine(xt ra la sa nr rc d lc sc (B k) _ ad ae oM).mono ?_;rintro e W2 ⟨rfl,I⟩;have F:=V.o.q ((wI X).drew.trans I);obtain⟨an,ao,ap,aq⟩:=F.c;have T:Hid (At W2 (w.heap.size+1+1) (kM nr B k)):=F;clear F;have Y:Hid (Bw X W2):=(wI X).drew.trans I;clear I)|(go_at_call 140;refine(Uu (kM nr B k) (M.tg nr (B k)) _ HX.o HT.o).mono ?_;rintro e N ⟨⟨t,C,rfl⟩,J⟩;have ab:Hid (t=(kM nr B k).k (M.tg nr (B k))):=C;clear C;have u:=T.o.q J;obtain⟨au,av,aw,ax⟩:=u.c;obtain⟨ay,az,a0,a1⟩:=u.s;have U:Hid (At N (w.heap.size+1+1) (kM nr B k)):=u;have ag:=u.lt;clear u;have Z:Hid (Bw W2 N):=J;clear J))
   all_goals go_wp2
   all_goals go_roundw
   all_goals first
    |exact⟨k+1,oM,by go_num,by rw[W8 E.o,<-ab.o];exact U.o.set t,W9 L.o g.o Y.o Z.o D.o t⟩
    |(simp[intOf];omega)
  have o:((B k).e==2)=false:=by simp;exact λq=>h (.inl q)
  have x:((B k).e==3)=false:=by simp;exact λq=>h (.inr q)
  have E:Hid (¬M.bI (B k)):=h;clear h y;go_wp2;go_roundw
  ·exact⟨k+1,oM,by go_num,by rw[W7 E.o];exact D.o.q (wG wr),L.o.trans ((wG wr).mono oM)⟩
  simp[intOf];omega
 obtain rfl:k=n:=oM;obtain⟨y0,y1,y2,y3⟩:=z.c;obtain⟨z0,z1,z2,z3⟩:=z.s;clear A l r z G H o x;go_wp2;refine wL (v:=Ha (kM nr B k)) (by simp[results,f133,go_sem,Ha, *]) rfl ?_;exact⟨rfl,ko aa.o (w.heap.size+1) (kM nr B k) oM⟩
structure Ee where
 e:Bool
 f:NS
 loop:Bool
instance:Inhabited Ee:=⟨⟨false,nz,false⟩⟩
def It(x:Ee):Vl:=.agg #[.bool x.e,Uv x.f.a,Uv x.f.b,Uv x.f.c,Uv x.f.d,.bool x.loop]
def Fo(x:Ee):List Value:=[.bool x.e,Uv x.f.a,Uv x.f.b,Uv x.f.c,Uv x.f.d,.bool x.loop]
def uC(nr:Nat)(mk:NS)(o:OpD)(x y:Ee):Ee :=
 if o.e=0 then ⟨true,nz,false⟩ else if M.bI o then ⟨mk.h (M.tg nr o),nz.k (M.tg nr o),false⟩
 else if o.e=4 then ⟨x.e&&y.e,if x.e then x.f.e y.f else x.f,x.loop||y.loop⟩
 else if o.e=5 then ⟨x.e||y.e,x.f.e y.f,x.loop||y.loop⟩
 else if o.e=6 then ⟨true,x.f,x.e||x.loop⟩
 else if o.e=7 then ⟨true,x.f,x.loop⟩
 else ⟨false,nz,false⟩
structure Dr(w:Wl)(b o:Nat)(x:Ee):Prop where
 e:w.cell? (Ad b o)=some (.bool x.e)
 wa:w.cell? (Ad b (o+1))=some (Uv x.f.a)
 wb:w.cell? (Ad b (o+2))=some (Uv x.f.b)
 wc:w.cell? (Ad b (o+3))=some (Uv x.f.c)
 wd:w.cell? (Ad b (o+4))=some (Uv x.f.d)
 loop:w.cell? (Ad b (o+5))=some (.bool x.loop)
def Dr.q{w w' b o x}(h:Dr w b o x)(k:Bw w w'):Dr w' b o x :=
 ⟨ue h.e k,ue h.wa k,ue h.wb k,ue h.wc k,ue h.wd k,ue h.loop k⟩
structure Cd(w:Wl)(gb mb:Nat)(ra la:Oa)(nr rc nb lc:Nat)(mk:NS):Prop where
 g0:w.cell? (Ad gb 0)=some (Sl ra nr rc)
 g1:w.cell? (Ad gb 1)=some (Sl la nb lc)
 m:At w mb mk
def Cd.q{w w' gb a ra la nr rc b lc mk}(h:Cd w gb a ra la nr rc b lc mk)(k:Bw w w'):Cd w' gb a ra la nr rc b lc mk :=
 ⟨ue h.g0 k,ue h.g1 k,h.m.q k⟩
def qw(v:Ee)(w:Wl)(e:Ending)(w':Wl):Prop:=e=Rt (It v)/\Bw w w'
def Vh{n l a b c d x}(g:n=x.e)(h:a=x.f.a)(i:b=x.f.b)(j:c=x.f.c)(k:d=x.f.d)(m:l=x.loop) :
  Rt (.agg #[.bool n,Uv a,Uv b,Uv c,Uv d,.bool l])=Rt (It x):=by
 rw[g,h,i,j,k,m];rfl
def qd(x:Ee):Obj:=.cells #[.bool x.e,Uv x.f.a,Uv x.f.b,Uv x.f.c,Uv x.f.d,.bool x.loop] 195
def Eb(w:Wl)(b:Nat)(x:Ee):Prop:=w.heap[b]?=some (qd x)
def Eb.c{w b x}(h:Eb w b x):w.cell? (Ad b 0)=some (.bool x.e)/\w.cell? (Ad b 1)=some (Uv x.f.a)/\w.cell? (Ad b 2)=some (Uv x.f.b)/\w.cell? (Ad b 3)=some (Uv x.f.c)/\w.cell? (Ad b 4)=some (Uv x.f.d)/\w.cell? (Ad b 5)=some (.bool x.loop):=by
 unfold Eb at h;simp[World.cell?,h,qd]
def Eb.s{w b x}(h:Eb w b x):w.frozen? (Ad b 0)=false/\w.frozen? (Ad b 1)=false/\w.frozen? (Ad b 2)=false/\w.frozen? (Ad b 3)=false/\w.frozen? (Ad b 4)=false/\w.frozen? (Ad b 5)=false:=by
 unfold Eb at h;simp[World.frozen?,h,qd]
def Eb.lt{w b x}(h:Eb w b x):b<w.heap.size:=(Cq.1 h).1
def Eb.e(w:Wl)(x:Ee):Eb (w.alloc (qd x)) w.heap.size x:=Df w (qd x)
def Eb.q{w w' b x}(h:Eb w b x)(k:Bw w w'):Eb w' b x:=(k.block b h.lt).trans h
def NU(w:Wl)(b:Nat)(x:Ee):Wl:=(((((w.setCell (Ad b 0) (.bool x.e)).setCell (Ad b 1) (Uv x.f.a)).setCell (Ad b 2) (Uv x.f.b)).setCell (Ad b 3) (Uv x.f.c)).setCell (Ad b 4) (Uv x.f.d)).setCell (Ad b 5) (.bool x.loop)
def BH{B w w'}(h:Below B w w')b x(a:B<=b):Below B w (NU w' b x):=by
 unfold NU;exact(((((h.setCell (p:=(Ad b 0)) a _).setCell (p:=(Ad b 1)) a _).setCell (p:=(Ad b 2)) a _).setCell (p:=(Ad b 3)) a _).setCell (p:=(Ad b 4)) a _).setCell (p:=(Ad b 5)) a _
def oz:Ee:=⟨false,nz,false⟩
def xg gb c ra la sa i nr rc h lc sc ol j mk o w(s:Cd w gb c ra la nr rc h lc mk)(a:o.e=0\/o.e=1) :
  Cs 137 #[.agg #[Iv o.e,Sl sa o.sl sc,Iv o.f],Sl i ol j,.pointer (Sm gb 0),.pointer (Sm c 0)] w (qw (uC nr mk o default default) w):=by
 have g:¬M.bI o:=by rintro (q|q)<;>omega
 rcases a with a|a
 ·have b:Hid (o.e=0):=a;have d:(o.e==0)=true:=by simp[a]
  clear a;go_enter func137,ntmps137;go_wp2;refine wL (by simp[results,f137,go_sem];rfl) rfl ?_;refine⟨Vh ?_ ?_ ?_ ?_ ?_ ?_,Bn w⟩<;>simp[uC,b.o,nz]
 have b:Hid (o.e=1):=a;have d:(o.e==0)=false:=by simp[a]
 have k:(o.e==2)=false:=by simp[a]
 have l:(o.e==3)=false:=by simp[a]
 have m:(o.e==4)=false:=by simp[a]
 have n:(o.e==5)=false:=by simp[a]
 have p:(o.e==6)=false:=by simp[a]
 have r:(o.e==7)=false:=by simp[a]
 clear a;go_enter func137,ntmps137;go_wp2;refine wL (by simp[results,f137,go_sem];rfl) rfl ?_;refine⟨Vh ?_ ?_ ?_ ?_ ?_ ?_,Bn w⟩<;>simp[uC,b.o,nz,g]
def xi(s:NS)(p:Nat)(w:Wl)(g:s.OK)(f:p<256) :
  Cs 139 #[.agg #[Uv s.a,Uv s.b,Uv s.c,Uv s.d],Iv p] w λe w'=>(∃r,r=s.h p/\e=Rt (.bool r))/\Bw w w' :=
 (MY s p w g f).mono (λe w' h=>⟨⟨_,rfl,h.1⟩,by rw[h.2];exact wG w⟩)
def xk(p:Nat)w(g:p<256) :
  Cs 140 #[.agg #[Uv 0,Uv 0,Uv 0,Uv 0],Iv p] w λe w'=>(∃t,t=nz.k p/\e=Rt (.agg #[Uv t.a,Uv t.b,Uv t.c,Uv t.d]))/\Bw w w' :=
 Uu nz p w NS.OK.f g
def xl gb E ra la sa U nr rc i lc sc ol V mk o w(b:Cd w gb E ra la nr rc i lc mk)(a:M.bI o)(d:M.bE nr i o)(C:mk.OK)(Z:nr<=100)(h2:i<=100) :
  Cs 137 #[.agg #[Iv o.e,Sl sa o.sl sc,Iv o.f],Sl U ol V,.pointer (Sm gb 0),.pointer (Sm E 0)] w (qw (uC nr mk o default default) w):=by
 have I:=ua a;have g:=AY d a;have Q:=d.2.2.2.2.1;have R:o.f<=1048576:=by have:=d.2.2.2.2.2;unfold M.bM at this;split at this<;>(try split at this)<;>omega
 have x:Hid (M.tg nr o<256):=by show _<_;omega
 have H:=C;have u:Hid (¬o.e=0):=by rcases a with q|q<;>(show ¬_;omega)
 have X:(o.e==0)=false:=by simp;exact u
 have G:=ua b;have z:=b.g0;have P:=b.g1;have aa:=ud z;have S:Hid (uC nr mk o default default=⟨mk.h (M.tg nr o),nz.k (M.tg nr o),false⟩):=by show _=_;simp[uC,u.o,I.o]
 have T:(o.e==2)=true\/((o.e==2)=false/\(o.e==3)=true):=by
  rcases a with q|q
  ·left;simp[q]
  right;simp[q]
 clear d C b g a;rcases T with O|⟨O,Y⟩;all_goals (
  go_enter func137,ntmps137;go_wp2_with fail;have p:Hid (Eb ((w.alloc (Oc #[Iv o.e,Sl sa o.sl sc,Iv o.f] 128)).alloc (qd oz)) (w.heap.size+1) oz):=by
   have:=Eb.e (w.alloc (Oc #[Iv o.e,Sl sa o.sl sc,Iv o.f] 128)) oz;rw[zV]at this;exact this
  refine(xt ra la sa nr rc i lc sc o _ Q R oM).mono ?_;rintro e W ⟨rfl,l⟩;have y:=ua (uf (Bn w) l);obtain⟨m0,m1,m2,m3⟩:=(G.m.q y).c;have n:=ua (p.q l);clear l z P p;go_wp2_with (first|(go_at_call 139;refine(xi mk (M.tg nr o) _ H x).mono ?_;rintro e W2 ⟨⟨r,D,rfl⟩,A⟩;have J:Hid (r=mk.h (M.tg nr o)):=D;have F:Hid (Bw W W2):=A;clear D A)|(go_at_call 140;refine(xk (M.tg nr o) _ x).mono ?_;rintro e N ⟨⟨t,g,rfl⟩,B⟩;have L:Hid (t=nz.k (M.tg nr o)):=g;have j:Hid (Bw W N):=uf F B;clear g B;obtain⟨z0,z1,z2,z3,z4,z5⟩:=(n.q j).c;obtain⟨s0,s1,s2,s3,s4,s5⟩:=(n.q j).s));refine wL (v:=It ⟨r,t,false⟩) (by simp[results,f137,go_sem,It, *]) rfl ?_;exact⟨by rw[S.o,J.o,L.o],BH (uf y j) (w.heap.size+1) ⟨r,t,false⟩ oM⟩)
def urk{P:Program}{ops:Array Oper}{o:Oper}{a:Act}{w:Wl}{K:Act->World->Prop}{g:Exit->Act->World->Prop}{E:Prop}{f:FuncId}(j:∀args w,(callFunc f args).run P w=.ok (.enter f args) w)(k:o.guard=none)(c b d:Operand)(s t:TypeId)
  (m:o.op=.call { callee:=.value c,args:=#[b,d],argTypes:=#[s,t] }) {y1 y2 p1 p2:Vl} (i:a.eval c=.func (.func f) #[] #[p1,p2]) (q:a.eval b=y1) (r:a.eval d=y2) (h:Calls P f #[y1,y2,p1,p2] w (λe w'=>∃u,e=Rt u/\K (a.put o.dst u) w')):if Region.wanted o (yielded ops a.tmps)=true then Oper.wp P o a w K g else E:=by
 have p:Region.wanted o (yielded ops a.tmps)=true:=by simp[Region.wanted,k]
 rw[Zp p];have n:(execOp a.eval o).run P w=.ok (.enter f #[y1,y2,p1,p2]) w:=by
  unfold execOp;simp only[m,resolve,invoke,Deferred.ofValue,Fa,Gc,Gk,Hs,Er,Gl,q,r,i];exact j #[y1,y2,p1,p2] w
 unfold Oper.wp;rw[n];refine Calls.mono h ?_;rintro e w' ⟨u,rfl,l⟩;exact l
def kQ:List (Nat×Ee)->List Value
 |[]=>Fo oz
 |(_,v)::r=>kQ r++Fo v
def Sj x:(Fo x).length=6:=rfl
def jw l:(kQ l).length=(l.length+1)*6:=by
 induction l with
 |nil=>rfl
 |cons p r a=>rw[kQ,wK,a,Sj];simp only[zQ];omega
def Wn{w g cs pre post x}(h:∀j,j<cs.length->w.cell? (Ad g j)=cs[j]?)(e:cs=pre++(Fo x++post)):Dr w g pre.length x:=by
 have a:∀j v,(Fo x)[j]?=some v->w.cell? (Ad g (pre.length+j))=some v:=λj v b=>by
  have c:j<6:=by
   have:=(zT.1 b).1;simpa[Sj] using this
  rw[h _ (by rw[e];simp[Sj];omega),e,Di oM,show pre.length+j-pre.length=j by omega,Cr (by rw[Sj];exact c),b]
 exact⟨a 0 _ rfl,a 1 _ rfl,a 2 _ rfl,a 3 _ rfl,a 4 _ rfl,a 5 _ rfl⟩
def url{Q w g cap n m cs pre post}(h:wC Q w (Sl (Sm g 0) n cap) 6 n cs)(e:cs=pre++post)(f:pre.length=m*6)(r:m<=n)(l:0<n):wC Q w (Sl (Sm g 0) m cap) 6 m pre:=by
 rcases h with⟨q,_⟩|⟨k,i,q,a,o,p,b,c⟩
 ·cases q
 cases q;refine .inr ⟨g,cap,rfl,a,f,oM,λj d=>?_,c⟩;rw[b j (by rw[e,wK];omega),e,Cr d]
def ye(nr:Nat)(mk:NS)(o:OpD)(l:List (Nat×Ee)):Ee :=
 if M.ar o.e=2 then match l with|(_,y)::(_,x)::_=>uC nr mk o x y|_=>default
 else if M.ar o.e=1 then match l with|(_,x)::_=>uC nr mk o x default|_=>default
 else uC nr mk o default default
def utT nr mk o i l(h:M.ar o.e<=(l.length:Int)):∃s,M.stp (uC nr mk) o i l=(s,ye nr mk o l)::l.drop (M.ar o.e).toNat:=by
 unfold M.stp ye;rcases M.dD o.e with a|a|a
 ·simp[a]
 ·rw[a]at h;match l with
  |[]=>simp at h
  |(s,x)::r=>exact⟨s,by simp[a]⟩
 rw[a]at h;match l with
 |[]=>simp at h
 |[(s,x)]=>simp at h
 |(s2,y)::(s1,x)::r=>exact⟨s1,by simp[a]⟩
def Wo nr mk o x y(a:x.f.OK)(b:y.f.OK):(uC nr mk o x y).f.OK:=by
 unfold uC;split
 ·exact NS.OK.f
 split
 ·exact NS.OK.f.k _
 split
 ·split
  ·exact a.e b
  exact a
 split
 ·exact a.e b
 split
 ·exact a
 split
 ·exact a
 exact NS.OK.f
def upa nr mk o l(h:∀p,p∈l->p.2.f.OK):(ye nr mk o l).f.OK:=by
 have d:(default:Ee).f.OK:=NS.OK.f;unfold ye;split
 ·match l with
  |[]=>exact d
  |[_]=>exact d
  |(s2,y)::(s1,x)::r=>exact Wo _ _ _ _ _ (h (s1,x) sM) (h (s2,y) sM)
 split
 ·match l with
  |[]=>exact d
  |(s1,x)::r=>exact Wo _ _ _ _ _ (h (s1,x) sM) d
 exact Wo _ _ _ _ _ d d
end Go.Proofs.YtoihadcablknpaaGreatDoor
