import Derived.Test.YtimfigongapdnaaGreatT42
import Derived.Test.YtimfigongapdnaaGreatT22
set_option linter.unusedVariables false
set_option linter.unusedSimpArgs false
set_option maxHeartbeats 40000000
set_option maxRecDepth 100000
namespace Go.Proofs.YtimfigongapdnaaGreat
open Go.RowKit
open M (OpD ug Gr TX b1 b1_size)
open Classical in
noncomputable def lsX (t:Tp) (g:Gr) (n:Nat) (B:Nat->OpD) (i:Nat):ByteArray×Nat:=if h:∃p:ByteArray×Nat,LoC t g n B 0 n i p.1 p.2 then h.choose else (ByteArray.empty,i)
theorem ude t{g}(b:M.Sound g){n B}(a:M.BodyOK g.nr g.nb n B)(c:n<=2000)i:LoC t g n B 0 n i (lsX t g n B i).1 (lsX t g n B i).2:=by
 have h:∃p:ByteArray×Nat,LoC t g n B 0 n i p.1 p.2:=by
  obtain⟨s,j,h⟩:=ugW (t:=t) b a.1 c n 0 i _ (Nat.le_refl _) a.2.1 (uax (λ_ _ _=>()) B n a.2);exact⟨(s,j),h⟩
 unfold lsX;rw[dif_pos h];exact h.choose_spec
noncomputable def labT (t:Tp) (g:Gr) (i:Nat):Nat->ByteArray×Nat
 |0=>(⟨#[]⟩,i)
 |k+1=>if (g.lab k).has then (⟨#[94]⟩++qm g k++⟨#[61]⟩++(lsX t g (g.lab k).bl (g.lab k).body (labT t g i k).2).1++⟨#[59]⟩++(labT t g i k).1,(lsX t g (g.lab k).bl (g.lab k).body (labT t g i k).2).2) else labT t g i k
noncomputable def rulT (t:Tp) (g:Gr) (i:Nat):Nat->ByteArray×Nat
 |0=>(⟨#[]⟩,i)
 |k+1=>((rulT t g i k).1++(gapT (t.v (lsX t g (g.rule k).bl (g.rule k).body (rulT t g i k).2).2)++ql g k++⟨#[32,61]⟩++(lsX t g (g.rule k).bl (g.rule k).body (rulT t g i k).2).1++⟨#[59]⟩),t.n (lsX t g (g.rule k).bl (g.rule k).body (rulT t g i k).2).2)
noncomputable def lsT (t:Tp) (g:Gr) (i:Nat):ByteArray×Nat :=
 (if t.v i%4=0 then (labT t g (t.n i) g.nb).1++(rulT t g (labT t g (t.n i) g.nb).2 g.nr).1 else (rulT t g (labT t g (t.n i) g.nb).2 g.nr).1++(labT t g (t.n i) g.nb).1,(rulT t g (labT t g (t.n i) g.nb).2 g.nr).2)
theorem sz1 a:(⟨#[a]⟩:ByteArray).size=1:=rfl
theorem sz2 a b:(⟨#[a,b]⟩:ByteArray).size=2:=rfl
theorem ueN t{g}(a:M.Sound g)i:∀k,k<=g.nb->(labT t g i k).1.size<=1300*M.sum (λi=>(g.lab i).bl) k+60*k
 |0,_=>Nat.zero_le _
 |k+1,hk=>by
  have d:=ueN t a i k (by omega);rw[labT,M.sum];split
  ·rename_i h;have b:=(kB a (show k<g.nb by omega)).2;have c:=(ude t a (a.lb k (by omega) h) (qT a (show k<g.nb by omega)) (labT t g i k).2).1;simp only[ByteArray.size_append,sz1];omega
  omega
theorem ueO t{g}(a:M.Sound g)i:∀k,k<=g.nr->(rulT t g i k).1.size<=1300*M.sum (λi=>(g.rule i).bl) k+60*k
 |0,_=>Nat.zero_le _
 |k+1,hk=>by
  have e:=ueO t a i k (by omega);have b:=(kA a (show k<g.nr by omega)).2;have c:=(ude t a (a.rb k (by omega)) (jV a (show k<g.nr by omega)) (rulT t g i k).2).1;have d:=jp (t.v (lsX t g (g.rule k).bl (g.rule k).body (rulT t g i k).2).2);rw[rulT,M.sum];simp only[ByteArray.size_append,sz1,sz2];omega
theorem umr t{g}(a:M.Sound g)i j k m(b:k<=g.nb)(c:m<=g.nr):(labT t g i k).1.size+(rulT t g j m).1.size<=2700000:=by
 have e:=ueN t a i k b;have f:=M.sum_le (λi=>(g.lab i).bl) b;have h:=ueO t a j m c;have l:=M.sum_le (λi=>(g.rule i).bl) c;have d:=a.ol;have n:=a.r2;have o:=a.l2;unfold M.ops at d;omega
theorem ujG t{g}(a:M.Sound g)i k(b:k<=g.nb):(labT t g i k).1.size<=2700000:=by have:=umr t a i i k 0 b (Nat.zero_le _);omega
theorem uo3 t{g}(a:M.Sound g)i k(b:k<=g.nr):(rulT t g i k).1.size<=2700000:=by have:=umr t a i i 0 k (Nat.zero_le _) b;omega
theorem ufC t{g}(a:M.Sound g)i:(lsT t g i).1.size<=2700000:=by
 have:=umr t a (t.n i) (labT t g (t.n i) g.nb).2 g.nb g.nr (Nat.le_refl _) (Nat.le_refl _);unfold lsT;dsimp only;split<;>simp only[ByteArray.size_append]<;>omega
theorem GramX.on{Q w w' a la g}(h:GramX Q w a la g)(st:Stay Q w w'):GramX Q w' a la g:=⟨h.rules.on st,h.labs.on st⟩
structure GR(Q:Nat->Prop)(R H:Nat)(ra la:Option Addr)(g:Gr)(w:World):Prop where
 q:∀b,Q b->b≠R/\b<H
 h:H<=w.heap.size
 g:GramX Q w ra la g
theorem GR.keep{Q R H a la g w w'}(h:GR Q R H a la g w)(k:Keep (λx=>x=R) w w'):GR Q R H a la g w' :=
 ⟨h.q,Nat.le_trans h.h k.size,h.g.on (k.stay (λb q=>⟨by have:=h.q b q;have:=h.h;omega,(h.q b q).1⟩))⟩
theorem GR.loose{Q R H e la g w}(h:GR Q R H e la g w)(l:M.Sound g)t{n B}(f:M.BodyOK g.nr g.nb n B)(o:n<=2000){a c}j lc(m:n<=c)(d:OpsA Q w a n B)i(k:RdA t R w i) :
  Calls Tryz.prog 57 #[.agg #[.slice e g.nr j,.slice la g.nb lc],.slice a n c,.pointer (some ⟨R,0,none⟩)] w (ugT (lsX t g n B i).1 t R (lsX t g n B i).2 w):=by
 rcases d with q|⟨b,off,rfl,p,d⟩
 ·have:=f.2.2;rw[q,M.dep]at this;omega
 exact(ude t l f o i).2 R Q e la j lc b off H p h.q n off c w rfl (by omega) m ⟨d,h.g.plain,h.h⟩ k
theorem qh t{g}(S:M.Sound g){Q R H F la}A lc i w(hG:GR Q R H F la g w)(hR:RdA t R w i) :
  Calls Tryz.prog 21 #[.agg #[.slice F g.nr A,.slice la g.nb lc],.pointer (some ⟨R,0,none⟩)] w (ugT (lsT t g i).1 t R (lsT t g i).2 w):=by
 have hv:=t.v_le i;have am:=hR.lt;have h1:=S.r2;have h2:=S.l2;have C:w.heap.size≠R:=by omega
 obtain⟨s0,ac⟩:=nm (lsT t g i);have j:=ua ac;unfold lsT at j;rw[ac];have K0:=ua (Keep.alloc (λ_=>False) w (.cells #[.slice F g.nr A,.slice la g.nb lc] 28));have m:=ua (ux w #[.slice F g.nr A,.slice la g.nb lc] 28);have J:=ua hG;have c:=ua S;go_enter Tryz.func21,Tryz.ntmps21;go_upto_region 1 with fail;generalize w.alloc _=W0 at *;go_wp2_with fail;refine(uw t R i W0 (hR.keep K0 (λ_ e=>e.elim))).mono ?_;rintro e W1 ⟨rfl,a⟩;have B:Hid (RdOn t R (t.n i) w W1):=⟨a.1,(K0.mono (λ_ e=>e.elim)).trans a.2⟩;replace m:=ua (m.keepR a.2 C);replace J:=ua (J.keep B.2);generalize t.v i=k0 at *;generalize t.n i=s at *;obtain⟨d,hd⟩:=nm (k0%4);have hd':(k0:Int)%4=(d:Int):=by omega
 rw[hd]at j;obtain⟨z0,p0,l0⟩:=m.x;go_upto_region 4 with fail;simp only[hd'];go_loopw [6,7] (λov y wr=>∃k:Nat,k<=g.nb/\y=.int .i64 (k:Int)/\ov=.string (labT t g s k).1/\RdOn t R (labT t g s k).2 W1 wr) (λ_ y _=>g.nb-(intOf y).toNat)
 case atStart=>exact⟨0,Nat.zero_le _,rfl,rfl,RdOn.refl B.1⟩
 case round =>
  obtain⟨k,Z,rfl,rfl,a⟩:=hrel;have l:=ua a;have aj:=ujG t c s k Z;have o:=ua (labT.eq_2 t g s k);have N:Hid (∀i,k=i->labT t g s k=labT t g s i):=λi e=>by rw[e]
  obtain⟨z,p,lz⟩:=(m.keepR a.2 C).x;have f:=ua (J.keep a.2);generalize labT t g s k=L at *;by_cases h:k<g.nb
  ·have hlt':(k:Int)<(g.nb:Int):=(by omega);rcases f.g.labs with q|⟨b,off,rfl,hq,P⟩
   ·omega
   obtain⟨na,nc,ba,bc,D,hn,ch,c1,T,W⟩:=(P k h).body_cap;have lb:=ud D;cases G:(g.lab k).has with
   |false =>
    rw[G]at o ch;go_wp2;go_roundw
    case rel=>exact⟨k+1,by omega,by go_num,by rw[o.out];rfl,by rw[o.out];exact l⟩
    case measure=>simp[intOf];omega
   |true =>
    rw[G]at o ch;have ah:=(kB c h).2;have E:=qT c h;have ai:=(ude t c (c.lb k h G) E L.2).1;have I:=ua ((f.keep (Keep.drew _ wr)).loose c t (c.lb k h G) E A lc W (T.kept (Keep.drew (λ_=>False) wr) (λ_ _ e=>e)) L.2 (l.1.keep (Keep.drew (λ_=>False) _) (λ_ e=>e.elim)));have O:=ua hn;have V:=(f.q b hq).1;go_wp2_with fail;go_region_law (refine xu jM rfl (.tmp 29) (.tmp 35) (.tmp 36) 28 68 42 rfl (y1:=.agg #[.slice F g.nr A,.slice (some ⟨b,off,none⟩) g.nb lc]) (y2:=.slice ba (g.lab k).bl bc) (y3:=.pointer (some ⟨R,0,none⟩)) (by simp[Act.eval]) (by simp[Act.eval]) (by simp[Act.eval]) (I.mono ?_);rintro e W2 ⟨rfl,a⟩;replace l:=ua ((l.quiet (Keep.drew _ _)).trans a);have u:=(Keep.drew (λx=>x=R) wr).trans a.2;refine⟨_,rfl,?_⟩);all_goals
     have c0':=u.cell' V D;have Y:=vo Q na (g.lab k).nl nc (g.lab k).name _ (O.keepR u (λb q=>(f.q b q).1));have aa:str (g.lab k).nl (g.lab k).name=qm g k:=rfl;rw[aa]at Y;obtain⟨z',p',ak⟩:=(m.keepR l.2 C).x;have lb':=ud c0';generalize lsX t g (g.lab k).bl (g.lab k).body L.2=X at *;generalize qm g k=al at *;go_wp2;go_roundw
     case rel=>exact⟨k+1,by omega,by go_num,by rw[o.out];rfl,by rw[o.out];exact l⟩
     case measure=>simp[intOf];omega
  obtain rfl:k=g.nb:=by omega
  have hlt':¬(g.nb:Int)<(g.nb:Int):=by omega
  have ab:=ua (N _ rfl);rw[<-ab.out]at j;obtain⟨W2,af⟩:=nm wr;rw[af]at l f z p lz;have ae:=ua (B.trans l);replace m:=ua (m.keepR l.2 C);go_upto_region 11 with fail;go_loopw [9,10] (λov y wr=>∃k:Nat,k<=g.nr/\y=.int .i64 (k:Int)/\ov=.string (rulT t g L.2 k).1/\RdOn t R (rulT t g L.2 k).2 W2 wr) (λ_ y _=>g.nr-(intOf y).toNat)
  case atStart=>exact⟨0,Nat.zero_le _,rfl,rfl,RdOn.refl l.1⟩
  case round =>
   obtain⟨k,Z,rfl,rfl,a⟩:=hrel;have r:=ua a;have aj:=uo3 t c L.2 k Z;have o:=ua (rulT.eq_2 t g L.2 k);have N:Hid (∀i,k=i->rulT t g L.2 k=rulT t g L.2 i):=λi e=>by rw[e]
   obtain⟨z,p,lz⟩:=(m.keepR a.2 C).x;replace f:=ua (f.keep a.2);generalize rulT t g L.2 k=U at *;by_cases h:k<g.nr
   ·have hlt':(k:Int)<(g.nr:Int):=(by omega);rcases f.g.rules with q|⟨b,off,rfl,hq,P⟩
    ·omega
    obtain⟨na,nc,ba,bc,D,hn,c1,T,W⟩:=(P k h).body_cap;have lb:=ud D;have ah:=(kA c h).2;have E:=jV c h;have ai:=(ude t c (c.rb k h) E U.2).1;have I:=ua ((f.keep (Keep.drew _ wr)).loose c t (c.rb k h) E A lc W (T.kept (Keep.drew (λ_=>False) wr) (λ_ _ e=>e)) U.2 (r.1.keep (Keep.drew (λ_=>False) _) (λ_ e=>e.elim)));have O:=ua hn;have V:=(f.q b hq).1;go_wp2_with fail;go_region_law (refine xu jM rfl (.tmp 59) (.tmp 65) (.tmp 66) 28 68 42 rfl (y1:=.agg #[.slice (some ⟨b,off,none⟩) g.nr A,.slice la g.nb lc]) (y2:=.slice ba (g.rule k).bl bc) (y3:=.pointer (some ⟨R,0,none⟩)) (by simp[Act.eval]) (by simp[Act.eval]) (by simp[Act.eval]) (I.mono ?_);rintro e W3 ⟨rfl,a⟩;replace r:=ua ((r.quiet (Keep.drew _ _)).trans a);have u:=(Keep.drew (λx=>x=R) wr).trans a.2;refine⟨_,rfl,?_⟩);all_goals
     have ad:=ua a.1;generalize lsX t g (g.rule k).bl (g.rule k).body U.2=X at *;have gs:=jp (t.v X.2);go_wp2_with fail;refine(ub2 t R _ _ ad).mono ?_;rintro e W4 ⟨rfl,a⟩;replace r:=ua (r.trans a);replace u:=u.trans a.2;have c0':=u.cell' V D;have Y:=vo Q na (g.rule k).nl nc (g.rule k).name _ (O.keepR u (λb q=>(f.q b q).1));have aa:str (g.rule k).nl (g.rule k).name=ql g k:=rfl;rw[aa]at Y;obtain⟨z',p',ak⟩:=(m.keepR r.2 C).x;have lb':=ud c0';generalize gapT (t.v X.2)=gp at *;generalize ql g k=al at *;go_wp2;go_roundw
     case rel=>exact⟨k+1,by omega,by go_num,by rw[o.out],by rw[o.out];exact r⟩
     case measure=>simp[intOf];omega
   obtain rfl:k=g.nr:=(by omega);have hlt':¬(g.nr:Int)<(g.nr:Int):=(by omega);rw[<-N.out _ rfl]at j;replace B:=ua (ae.trans r);have ag:=ujG t c s g.nb (Nat.le_refl _);rw[<-ab.out]at ag;by_cases e:d=0
   ·have b0:((d:Int)==0)=true:=(by simp[e]);rw[if_pos e]at j;go_wp2;go_ret;exact⟨by rw[<-j.out];rfl,by rw[<-j.out];exact B⟩
   have b0:((d:Int)==0)=false:=(by simp;omega);rw[if_neg e]at j;go_wp2;go_ret;exact⟨by rw[<-j.out];rfl,by rw[<-j.out];exact B⟩
def ums(p:Nat×(Nat->Int))(w:World)(e:Ending)(w':World):Prop:=∃a c,e=.returned (.slice a p.1 c)/\Ints (New w w') .u8 w' a p.1 p.2/\Keep (λ_=>False) w w'
def ofL(z:List Int):Nat×(Nat->Int):=(z.length,lf z)
def ofS(s:ByteArray):Nat×(Nat->Int):=(s.size,bT s)
theorem uQ{R w a W}(h:Keep (λ_=>False) w a)(f:w.heap.size<=R)(k:Keep (λx=>x=R) a W):Keep (λ_=>False) w W :=
 ⟨k.os.trans h.os,k.tape.trans h.tape,k.output.trans h.output,Nat.le_trans h.size k.size,λb c d=>(k.block b (Nat.lt_of_lt_of_le c h.size) (λe=>by omega)).trans (h.block b c d)⟩
theorem Ints.new{w c W a n S}(h:Ints (New c W) .u8 W a n S)(d:w.heap.size<=c.heap.size):Ints (New w W) .u8 W a n S:=h.wide (λb q=>⟨Nat.le_trans d q.1,q.2⟩)
def soup1:ByteArray:=⟨#[115,61,59,47,33,38,42,63,40,41,46,94,97,98,34,120,34,91,97,45,99,93,10,35]⟩
def spF(u:Tp):Nat->List Int->Nat->List Int
 |0,L,_=>L
 |f+1,L,p=>if p<u.m then spF u f (L++[ufw soup1 (u.v p%24)]) (u.n p) else L
theorem ujI u:∀f L p,(spF u f L p).length<=L.length+f
 |0,L,_=>Nat.le_refl _
 |f+1,L,p=>by
  rw[spF];split
  ·have:=ujI u f (L++[ufw soup1 (u.v p%24)]) (u.n p);rw[List.length_append,List.length_singleton]at this;omega
  omega
def ufE:ByteArray:=⟨#[115,32,61,32,97,32,59,32,97,32,61,32,98,32,47,32,94,101,32,59,32,94,101,32,61,32,46,32,59,32]⟩
def ura(c:Nat):Nat×(Nat->Int) :=
 if c=0 then ofS ufE else if c=1 then ofS (ufE++⟨#[98,32,61,32,59,32,115,32,61,32,59]⟩) else if c=2 then ofS (ufE++⟨#[98,32,61,32,113,32,59,32,94,101,32,61,32,59]⟩)
 else if c=3 then ofL [94,101,32,61,32,46,32,59,32,35,32,110,111,32,114,117,108,101] else if c=4 then ofS (ufE++⟨#[98,32,61,32,101,32,59]⟩) else ofL [35]
def dG(p:(List zNL×List zNL)×Nat):Gr:=zgram p.1.1 p.1.2
noncomputable def pgT (u:Tp):Nat×(Nat->Int) :=
 if u.v 0%14=0 then ofL (uir (u.v (u.n 0)%4) (u.v (u.n (u.n 0))%3))
 else if u.v 0%14=1 then ofL (spF u 20 [] (u.n 0))
 else if u.v 0%14=2 then ura (u.v (u.n 0)%6)
 else if u.v 0%14<7 then ofL (umm u (lsT u (dG (vy u (u.n 0))) (vy u (u.n 0)).2).2 (lsT u (dG (vy u (u.n 0))) (vy u (u.n 0)).2).1.size (bT (lsT u (dG (vy u (u.n 0))) (vy u (u.n 0)).2).1))
 else ofS (lsT u (dG (vy u (u.n 0))) (vy u (u.n 0)).2).1
theorem ufF{z u R j w b W e}(d:Keep (λ_=>False) w b)(k:w.heap.size<=R)(h:ukL z u R j b e W):ums (ofL z) w e W:=by
 obtain⟨a,c,f,g,l,i⟩:=h;exact⟨a,c,f,g.new d.size,uQ d k i.2⟩
theorem umt{s w d W a c}(g:Keep (λ_=>False) w d)(j:Ints (λb=>b=d.heap.size) .u8 W a s.size (bT s))(i:Below d.heap.size d W):ums (ofS s) w (.returned (.slice a s.size c)) W:=by
 refine⟨a,c,rfl,?_,g.trans (vK i)⟩;rcases j with e|⟨b,o,e,rfl,f⟩
 ·exact .inl e
 by_cases h:s.size=0
 ·exact .inl h
 exact .inr ⟨_,o,e,⟨g.size,ud (f 0 (by omega))⟩,f⟩
theorem umu{z w b W a n c}(d:Keep (λ_=>False) w b)(h:BufI .u8 b z (.slice a n c) W):ums (ofL z) w (.returned (.slice a n c)) W:=by
 obtain⟨e,f,q⟩:=h.shape;injection q with q1 q2 q3;subst q1 q2 q3;exact⟨_,_,rfl,h.ints.new d.size,d.trans h.2⟩
theorem uij(t:Tp)(i R:Nat)(a:Option Addr)(c:Nat)(w:World)(P:Ints (λb=>b<R) .u8 w a (t.m-i) (λk=>((t.rest i).T k:Int)))(hc:t.m-i<=c)(hV:∀(u:Tp) (j:Nat),M.Sound (dG (vy u j))) :
  Calls Tryz.prog 15 #[.slice a (t.m-i) c] w (ums (pgT (t.rest i)) w):=by
 have HV:=ua (hV (t.rest i));obtain⟨z,hz⟩:=nm (pgT (t.rest i));have d:=ua hz;unfold pgT at d;rw[hz];have HC:=ua (ukQ t i R a c w P hc);clear P hc hV hz;generalize t.rest i=u at *;generalize t.m-i=n at *;have hv:=u.v_le 0;go_enter Tryz.func15,Tryz.ntmps15;go_wp2_with fail;refine HC.mono ?_;rintro e W0 ⟨rfl,hr,D⟩;generalize af:w.heap.size=R0 at *;go_wp2_with fail;refine(uw u R0 0 W0 hr).mono ?_;rintro e W1 ⟨rfl,f⟩;have l:=ua (uQ D (by omega) f.2);have C:=ua f.1;clear hr D f;have ap:=u.v_le (u.n 0);generalize u.v 0=k0 at *;generalize u.n 0=A at *;obtain⟨k,D⟩:=nm (k0%14);have hk':(k0:Int)%14=(k:Int):=by omega
 rw[D]at d;have x:Hid (w.heap.size<=R0):=by show _<=_;omega
 clear af;go_upto_if 19 with fail;simp only[hk'];clear D hk';by_cases F:k=0
 ·have b0:((k:Int)==0)=true:=by simp[F]
  rw[if_pos F]at d;clear F;go_wp2_with fail;refine(ucL u R0 A W1 C).mono ?_;rintro e W2 r;have o:=ua (ufF l x r);obtain⟨N,O,rfl,_⟩:=r;go_wp2;go_ret;rw[<-d.out];exact o
 have b0:((k:Int)==0)=false:=by simp;omega
 rw[if_neg F]at d;by_cases V:k=1
 ·have b1:((k:Int)==1)=true:=by simp[V]
  rw[if_pos V]at d;clear F V;have aj:soup1.size=24:=rfl;go_upto_region 9 with fail;simp only[b0];rw[show(({ data:=#[115,61,59,47,33,38,42,63,40,41,46,94,97,98,34,120,34,91,97,45,99,93,10,35] }:ByteArray))=soup1 from rfl];go_loopw [6,7] (λov iv wr=>∃(j:Nat) (L:List Int) (p:Nat),j<=20/\iv=.int .i64 (j:Int)/\L.length=j/\BufR u R0 p W1 L ov wr/\ofL (spF u (20-j) L p)=z) (λ_ iv _=>20-(intOf iv).toNat)
  case atStart=>exact⟨0,[],A,by omega,rfl,rfl,.nil (RdOn.refl C) C.lt,d⟩
  case round =>
   obtain⟨j,L,p,hj,rfl,Q,r,he⟩:=hrel;obtain⟨la,lc,rfl⟩:=r.shape;rw[Q];have ab:=r;rw[Q]at ab;have h:=ua ab;have H:=ua Q;have Z:=ua he;clear r ab he Q;by_cases al:j<20
   ·have hlt':(j:Int)<20:=(by omega);go_wp2_with fail;refine(ugY u R0 p wr h.on.1).mono ?_;rintro e W2 ⟨rfl,f⟩;replace h:=ua (h.next f);clear f;have an:=h.on.1.le;have ao:=u.le;by_cases hp:p<u.m
    ·have hp':(u.m:Int)-(p:Int) > 0:=(by omega);have B:Hid (ofL (spF u (20-(j+1)) (L++[ufw soup1 (u.v p%24)]) (u.n p))=z):=by
      show _=_;rw[<-Z.out,show 20-j=(20-(j+1))+1 by omega,spF,if_pos hp]
     have aq:=u.v_le p;go_wp2_with fail;refine(uw u R0 p W2 h.on.1).mono ?_;rintro e W3 ⟨rfl,f⟩;replace h:=ua (h.out.next f);clear f;generalize u.v p=E at *;generalize u.n p=p2 at *;obtain⟨m3,S⟩:=nm (E%24);have hm':(E:Int)%24=(m3:Int):=(by omega);have ae:m3<soup1.size:=(by show m3<24;omega);rw[S,ufx ae]at B;clear S;go_wp2_with (at_builtin;refine umd rfl _ _ rfl rfl rfl h.out (by rw[H.out];omega) ?_;intro Xa Xc W5 X;rw[H.out]at X;rw[H.out]);go_roundw
     case rel=>exact⟨j+1,_,p2,by omega,by go_num,by rw[List.length_append,H.out];rfl,X.out,B.out⟩
     case measure=>simp[intOf];omega
    have hp':¬(u.m:Int)-(p:Int) > 0:=(by omega);have B:Hid (ofL L=z):=(by show _=_;rw[<-Z.out,show 20-j=(20-(j+1))+1 by omega,spF,if_neg hp]);go_wp2;go_ret;rw[<-B.out];exact ufF l x h.byt
   have hlt':¬(j:Int)<20:=(by omega);have B:Hid (ofL L=z):=(by show _=_;rw[<-Z.out,show 20-j=0 by omega];rfl);go_wp2;go_ret;rw[<-B.out];exact ufF l x h.byt
 have b1:((k:Int)==1)=false:=by simp;omega
 rw[if_neg V]at d;by_cases q2:k=2
 ·have b2:((k:Int)==2)=true:=by simp[q2]
  rw[if_pos q2]at d;go_wp2_with fail;refine(uw u R0 A W1 C).mono ?_;rintro e W2 ⟨rfl,f⟩;replace l:=ua (uQ l x f.2);generalize u.v A=E at *;obtain⟨m,S⟩:=nm (E%6);have hm':(E:Int)%6=(m:Int):=by omega
  have am:m<6:=by omega
  rw[S]at d;unfold ura at d;have J:Hid (∀s:ByteArray,∃a c W,(convert 9 22 (.string s)).run Tryz.prog W2=.ok (.slice a s.size c) W/\ums (ofS s) w (.returned (.slice a s.size c)) W):=λs=>by
   obtain⟨a,c,W,h1,h2,h3⟩:=ubb W2 s;exact⟨a,c,W,h1,umt l h2 h3⟩
  rw[show(({ data:=#[115,32,61,32,97,32,59,32,97,32,61,32,98,32,47,32,94,101,32,59,32,94,101,32,61,32,46,32,59,32] }:ByteArray))=ufE from rfl];rcases(by omega:m=0\/m=1\/m=2\/m=3\/m=4\/m=5) with rfl|rfl|rfl|rfl|rfl|rfl
  ·obtain⟨N,O,W,U,y⟩:=J ufE;have o:=ua y;go_wp2;go_ret;rw[<-d.out];exact o
  ·obtain⟨N,O,W,U,y⟩:=J (ufE++⟨#[98,32,61,32,59,32,115,32,61,32,59]⟩);have o:=ua y;go_wp2;go_ret;rw[<-d.out];exact o
  ·obtain⟨N,O,W,U,y⟩:=J (ufE++⟨#[98,32,61,32,113,32,59,32,94,101,32,61,32,59]⟩);have o:=ua y;go_wp2;go_ret;rw[<-d.out];exact o
  ·go_wp2_with (refine ufK [94,101,32,61,32,46,32,59,32,35,32,110,111,32,114,117,108,101] rfl _ rfl rfl rfl rfl (by omega) ?_;intro W0 Y);go_ret;rw[<-d.out];exact umu l Y
  ·obtain⟨N,O,W,U,y⟩:=J (ufE++⟨#[98,32,61,32,101,32,59]⟩);have o:=ua y;go_wp2;go_ret;rw[<-d.out];exact o
  go_wp2_with (refine ufK [35] rfl _ rfl rfl rfl rfl (by omega) ?_;intro W0 Y);go_ret;rw[<-d.out];exact umu l Y
 have b2:((k:Int)==2)=false:=by simp;omega
 rw[if_neg q2]at d;have aa:=ua (HV A);have ak:3<=k:=by omega
 obtain⟨g,hg⟩:=nm (vy u A);rw[hg]at d aa;go_wp2_with fail;refine(kM u R0 A W1 C g hg).mono ?_;rintro e W2 ⟨rv,lv,G,rs,ls,rfl,ag,ad,ac,f⟩;obtain⟨ra,rc,la,lc,rfl,rfl,hX⟩:=ag.zgram;rw[ad,ac]at hX;have hG:=ua (show GR (New W1 W2) R0 W2.heap.size ra la (dG g) W2 from ⟨λb q=>⟨by have:=q.1;have:=C.lt;omega,q.2⟩,Nat.le_refl _,hX⟩);replace l:=ua (uQ l x f.2);have I:=ua f.1;have ai:rs.length=(dG g).nr:=by rw[show(dG g).nr=g.1.1.length from rfl,<-ad,List.length_map]
 have ah:ls.length=(dG g).nb:=by rw[show(dG g).nb=g.1.2.length from rfl,<-ac,List.length_map]
 rw[ai,ah];have KA:=ua (Keep.alloc (λ_=>False) W2 (.cells #[.slice ra (dG g).nr rc,.slice la (dG g).nb lc] 28));have ae:=ufC u aa g.2;generalize dG g=gg at *;go_wp2_with fail;generalize W2.alloc _=W3 at *;refine(qh u aa rc lc g.2 W3 (hG.keep (KA.mono (λ_ e=>e.elim))) (I.keep KA (λ_ e=>e.elim))).mono ?_;rintro e W4 ⟨rfl,f⟩;replace l:=ua (uQ (l.trans KA) x f.2);replace I:=ua f.1;generalize lsT u gg g.2=s at *;obtain⟨a5,c5,W5,U,P,r⟩:=ubb W4 s.1;have HI:=ua P;have h:=ua r;by_cases q7:k<7
 ·have b7:(k:Int)<7:=by omega
  rw[if_pos q7]at d;go_wp2_with fail;refine(ufA u R0 s.2 _ a5 s.1.size c5 (bT s.1) (by omega) (λb q=>by have:=I.lt;omega) W5 HI (I.keep (vK h) (λ_ e=>e.elim))).mono ?_;rintro e W6 hM;have o:=ua (ufF (l.trans (vK h)) x hM);obtain⟨a6,c6,rfl,_⟩:=hM;go_wp2;go_ret;rw[<-d.out];exact o
 have b7:¬(k:Int)<7:=by omega
 rw[if_neg q7]at d;go_wp2;go_ret;rw[<-d.out];exact umt l HI h
def dpD:List OpD:=uI 5 (uI 4 (uF (vz 97)) (uq 2 0)) (uq 0 0)
def dpR:List zNL:=[⟨[115],true,dpD⟩]
def dpG:Gr:=zgram dpR []
theorem gs_dp:GS 210 dpR []:=by
 refine⟨by decide,by decide,by decide,λx a=>?_,λx a=>by cases a⟩;obtain rfl:=List.mem_singleton.1 a;exact⟨umy (by decide),vR (vR (jO (yI (by decide) (by decide) (by decide))) (uaS (k:=0) (by decide)) (.inl rfl)) udk (.inr rfl),by decide⟩
def GrK(g:Gr)(w:World)(e:Ending)(w':World):Prop:=∃a b la lc,e=.returned (.agg #[.slice a g.nr b,.slice la g.nb lc])/\GramX (New w w') w' a la g/\Keep (λ_=>False) w w'
theorem ubk{Q w w' a n B}(h:OpsA Q w a n B)(k:Keep (λ_=>False) w w'):OpsA Q w' a n B:=h.kept k (λ_ _ e=>e)
theorem ugH w:Calls Tryz.prog 13 #[] w (GrK dpG w):=by
 have O:=ua (Keep.alloc (λ_=>False) w (.cells #[.slice none 0 0,.slice none 0 0] 28));have m:=ua (ux w #[.slice none 0 0,.slice none 0 0] 28);have ak:w.heap.size<(w.alloc (.cells #[.slice none 0 0,.slice none 0 0] 28)).heap.size:=by simp
 go_enter Tryz.func13,Tryz.ntmps13;go_upto_region 1 with fail;generalize w.alloc _=f at *;go_wp2_with fail;refine(uJ 97 f).mono ?_;rintro e W1 ⟨rfl,y⟩;have N:Hid (Ints (λb=>b=f.heap.size) .i64 W1 (some ⟨f.heap.size,0,none⟩) 2 (lf (vz 97))):=by
  obtain⟨z,_,_⟩:=(ux f #[.int .i64 97,.int .i64 97] 3).x;rw[<-y]at z;refine .inr ⟨_,0,rfl,rfl,λi u=>?_⟩;rw[z];match i,u with
  |0,_=>rfl
  |1,_=>rfl
 have P:Hid (Keep (λ_=>False) f W1):=by rw[y];exact Keep.alloc _ _ _
 clear y;go_wp2_with fail;refine(ji _ _ 2 (vz 97) W1 N.out (by decide)).mono ?_;rintro e W2 ⟨Y,c2,rfl,ae,ai⟩;have r:=ua ae.ops;have Q:=ua (P.trans ai);go_wp2_with fail;refine(vQ 2 0 W2).mono ?_;rintro e W ⟨Z,c3,rfl,af,J⟩;have T:=ua af.ops;replace r:=ua (ubk r J);have R:=ua (Q.trans J);go_wp2_with fail;refine(jk _ _ 4 Y Z c2 c3 (uF (vz 97)) (uq 2 0) W r (Lil.small (jN (by decide)) (by decide)) T (Lil.small (xB _ _) (by decide)) (by decide)).mono ?_;rintro e W4 ⟨a4,c4,rfl,ag,aj⟩;have g:=ua ag.ops;have B:=ua (R.trans aj);go_wp2_with (refine ufK [115] rfl _ rfl rfl rfl rfl (by omega) ?_;intro G A);refine(vQ 0 0 G).mono ?_;rintro e H ⟨a6,c6,rfl,ah,j⟩;have F:=ua ah.ops;have L:=A.2;replace g:=ua (ubk (ubk g L) j);have n:=ua ((B.trans L).trans j);have E:=ua (A.ints.kept j (λ_ _ e=>e));have z4:Hid (f.heap.size<=W4.heap.size/\G.heap.size<=H.heap.size):=⟨B.size,j.size⟩;go_wp2_with fail;refine(jk _ _ 5 a4 a6 c4 c6 (uI 4 (uF (vz 97)) (uq 2 0)) (uq 0 0) H g (Lil.small (yo _ (jN (by decide)) (xB _ _)) (by decide)) F (Lil.small (xB _ _) (by decide)) (by decide)).mono ?_;rintro e d ⟨I,s,rfl,t,k⟩;have U:=ua t.ops;have aa:=ua (let ⟨a,c,e,h⟩:=t.shape;(show(uI 5 (uI 4 (uF (vz 97)) (uq 2 0)) (uq 0 0)).length<=s by injection e with _ _ e3;rw[e3];exact h));have D:=ua (n.trans k);have S:=ua (E.kept k (λ_ _ e=>e));have z6:=ua k.size;have al:=ua n.size;replace m:=ua (m.out.blk ((D.block w.heap.size ak (λe=>e))));clear t k n E g F;obtain⟨z,p,l⟩:=m.out.x;go_wp2;refine bodyPost_ret (v:=.agg #[.slice (some ⟨d.heap.size,0,none⟩) 1 1,.slice none 0 0]) ?_ rfl ?_
 ·simp[results,Tryz.f13,go_sem, *]
 have hz:=z4.out;have h6:=z6.out;have am:=al.out;have KS:Keep (λb=>b=w.heap.size) d ((d.setCell ⟨w.heap.size,0,none⟩ (.slice (some ⟨d.heap.size,0,none⟩) 1 1)).setCell ⟨w.heap.size,1,none⟩ (.slice none 0 0)):=(Keep.setCell (C:=λb=>b=w.heap.size) _ ⟨w.heap.size,0,none⟩ _ rfl).trans (Keep.setCell (C:=λb=>b=w.heap.size) _ ⟨w.heap.size,1,none⟩ _ rfl);have e7:((d.setCell ⟨w.heap.size,0,none⟩ (.slice (some ⟨d.heap.size,0,none⟩) 1 1)).setCell ⟨w.heap.size,1,none⟩ (.slice none 0 0)).heap.size=d.heap.size:=by rw[uj,uj]
 have hN:=S.out.kept KS (λb q e=>by have:=q.1;omega);have hO:=U.out.kept KS (λb q e=>by have:=q.1;omega);have ab:=uQ O.out (Nat.le_refl _) ((D.out.mono (λ_ e=>e.elim)).trans KS);generalize (d.setCell ⟨w.heap.size,0,none⟩ (.slice (some ⟨d.heap.size,0,none⟩) 1 1)).setCell ⟨w.heap.size,1,none⟩ (.slice none 0 0)=V at *;obtain⟨v,_,lv⟩:=(yG V #[.slice (some ⟨W4.heap.size,0,none⟩) 1 1,.slice I (uI 5 (uI 4 (uF (vz 97)) (uq 2 0)) (uq 0 0)).length s] 73 d.heap.size e7.symm).x;have o:=Keep.alloc (λ_=>False) V (.cells #[.slice (some ⟨W4.heap.size,0,none⟩) 1 1,.slice I (uI 5 (uI 4 (uF (vz 97)) (uq 2 0)) (uq 0 0)).length s] 73);have ac:=uae (hN.kept o (λ_ _ e=>e));have ad:=ubk hO o;generalize V.alloc _=X at *;refine⟨_,1,none,0,rfl,⟨.inr ⟨d.heap.size,0,rfl,⟨by omega,lv⟩,λi u=>?_⟩,.inl rfl⟩,ab.trans o⟩;obtain rfl:i=0:=by have:i<1:=u;omega
 exact⟨⟨⟨_,_,v 0,ac.wide (λb q=>⟨by have:=q.1.1;omega,q.2⟩)⟩,⟨_,_,v 1,ad.wide (λb q=>⟨by have:=q.1;omega,by have:=q.2;omega⟩)⟩⟩,⟨_,_,v 1,aa.out⟩⟩
end Go.Proofs.YtimfigongapdnaaGreat
