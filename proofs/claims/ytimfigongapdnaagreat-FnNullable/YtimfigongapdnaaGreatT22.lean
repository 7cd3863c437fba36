import Derived.Test.YtimfigongapdnaaGreatT21
set_option linter.unusedVariables false
set_option linter.unusedSimpArgs false
set_option maxHeartbeats 40000000
set_option maxRecDepth 100000
namespace Go.Proofs.YtimfigongapdnaaGreat
open Go.RowKit
open M (OpD ug Gr TX b1)
open Classical in
noncomputable def tbX (g:Gr) (n:Nat) (B:Nat->OpD):ByteArray:=if h:∃s,usk g n B s then h.choose else ByteArray.empty
theorem ugm{g:Gr}(a:M.Sound g){n:Nat}{B:Nat->OpD}(b:M.BodyOK g.nr g.nb n B)(c:n<=2000):usk g n B (tbX g n B):=by
 have h:=uoC a b c;unfold tbX;rw[dif_pos h];exact h.choose_spec
noncomputable def rulesT (g:Gr):Nat->ByteArray
 |0=>⟨#[]⟩
 |k+1=>rulesT g k++(ql g k++⟨#[32,61,32]⟩++tbX g (g.rule k).bl (g.rule k).body++⟨#[32,59,10]⟩)
noncomputable def labsT (g:Gr):Nat->ByteArray
 |0=>rulesT g g.nr
 |k+1=>if (g.lab k).has then labsT g k++(⟨#[94]⟩++qm g k++⟨#[32,61,32]⟩++tbX g (g.lab k).bl (g.lab k).body++⟨#[32,59,10]⟩) else labsT g k
theorem sz3(a b c:UInt8):(⟨#[a,b,c]⟩:ByteArray).size=3:=rfl
theorem qX{g:Gr}(a:M.Sound g):∀k,k<=g.nr->(rulesT g k).size<=40*k+1210*M.sum (λi=>(g.rule i).bl) k
 |0,_=>Nat.zero_le _
 |k+1,hk=>by
  have d:=qX a k (by omega);have b:=(kA a (show k<g.nr by omega)).2;have c:=(ugm a (a.rb k (by omega)) (jV a (show k<g.nr by omega))).1;rw[rulesT,M.sum];simp only[ByteArray.size_append,sz3];omega
theorem uec{g:Gr}(a:M.Sound g):∀k,k<=g.nb->(labsT g k).size<=(rulesT g g.nr).size+40*k+1210*M.sum (λi=>(g.lab i).bl) k
 |0,_=>by rw[labsT,M.sum];omega
 |k+1,hk=>by
  have d:=uec a k (by omega);rw[labsT,M.sum];split
  ·rename_i h;have b:=(kB a (show k<g.nb by omega)).2;have c:=(ugm a (a.lb k (by omega) h) (qT a (show k<g.nb by omega))).1;simp only[ByteArray.size_append,sz3,show(⟨#[94]⟩:ByteArray).size=1 from rfl];omega
  omega
theorem ulM{g:Gr}(a:M.Sound g)(k:Nat)(b:k<=g.nr):(rulesT g k).size<=2600000:=by
 have d:=qX a k b;have e:=M.sum_le (λi=>(g.rule i).bl) b;have c:=a.ol;have f:=a.r2;unfold M.ops at c;omega
theorem uhW{g:Gr}(a:M.Sound g)(k:Nat)(b:k<=g.nb):(labsT g k).size<=2700000:=by
 have d:=uec a k b;have e:=M.sum_le (λi=>(g.lab i).bl) b;have f:=qX a g.nr (Nat.le_refl _);have c:=a.ol;have h:=a.r2;have j:=a.l2;unfold M.ops at c;omega
def Txt(g:Gr)(s:ByteArray):Prop:=(M.Valid g/\s=labsT g g.nb)\/(¬M.Valid g/\s=ByteArray.empty)
theorem uhX g:∃s,Txt g s/\s.size<=2700000:=by
 by_cases h:M.Valid g
 ·exact⟨_,.inl ⟨h,rfl⟩,uhW h.sound g.nb (Nat.le_refl _)⟩
 exact⟨_,.inr ⟨h,rfl⟩,by simp⟩
def spI(W1:World)(n:Nat)(f:Nat->ByteArray)(b a:Value)(wr:World):Prop:=∃k:Nat,k<=n/\a=.int .i64 (k:Int)/\b=.string (f k)/\Below W1.heap.size W1 wr
def uoA(s:ByteArray)(w:World)(e:Ending)(w':World):Prop:=∃a c,e=.returned (.slice a s.size c)/\Ints (New w w') .u8 w' a s.size (bT s)/\Below w.heap.size w w'
theorem RuleX.body_cap{Q w b o d}(h:RuleX Q w b o d):∃a e ba bc,w.cell? ⟨b,o,none⟩=some (.slice a d.nl e)/\Ints Q .u8 w a d.nl d.name/\w.cell? ⟨b,o+1,none⟩=some (.slice ba d.bl bc)/\OpsA Q w ba d.bl d.body/\d.bl<=bc:=by
 obtain⟨⟨⟨a,e,g,k⟩,⟨l,m,c,i⟩⟩,⟨ba,bc,f,j⟩⟩:=h;rw[f]at c;simp at c;obtain⟨rfl,rfl⟩:=c;exact⟨a,e,_,_,g,k,f,i,j⟩
theorem LabX.body_cap{Q w b o d}(h:LabX Q w b o d):∃a e ba bc,w.cell? ⟨b,o,none⟩=some (.slice a d.nl e)/\Ints Q .u8 w a d.nl d.name/\w.cell? ⟨b,o+1,none⟩=some (.bool d.has)/\w.cell? ⟨b,o+2,none⟩=some (.slice ba d.bl bc)/\OpsA Q w ba d.bl d.body/\d.bl<=bc:=by
 obtain⟨⟨⟨a,e,g,l⟩,k,⟨m,n,c,i⟩⟩,⟨ba,bc,f,j⟩⟩:=h;rw[f]at c;simp at c;obtain⟨rfl,rfl⟩:=c;exact⟨a,e,_,_,g,l,k,f,i,j⟩
theorem ued Q p la l lc g s w(hG:GramX Q w p la g)(hs:vF g)(hT:Txt g s) :
  Calls Tryz.prog 14 #[.agg #[.slice p g.nr l,.slice la g.nb lc]] w (uoA s w):=by
 have HG:=ua hG;have HS:=ua hs;have HT:=ua hT;clear hG hs hT;go_enter Tryz.func14,Tryz.ntmps14;go_wp2_with fail;refine(jZ Q p la l lc g _ (HG.later (ui w _)).plain HS).mono ?_;rintro e W1 ⟨⟨r,rfl,E⟩,j⟩;have Z:=ue (a:=⟨w.heap.size,0,none⟩) (v:=.slice p g.nr l) (cN w.heap.size rfl rfl) j;have g1:=ue (a:=⟨w.heap.size,1,none⟩) (v:=.slice la g.nb lc) (cN w.heap.size rfl rfl) j;have G:=ua (uf (ui w _) j);have ak:=ud Z;clear j;cases r with
 |false =>
  have d:Hid (s=ByteArray.empty):=by
   rcases HT.out with⟨q,_⟩|⟨_,q⟩
   ·exact absurd (E.2 q) (by decide)
   exact q
  clear E;go_wp2;go_ret;exact⟨none,0,by rw[d.out];rfl,.inl (by rw[d.out];rfl),G⟩
 |true =>
  have d:=ua (E.1 rfl);have ac:Hid (s=labsT g g.nb):=by
   rcases HT.out with⟨_,q⟩|⟨q,_⟩
   ·exact q
   exact absurd (E.1 rfl) q
  clear E;have h1:=d.r2;have h2:=d.l2;have H:=ua (HG.later G);have G0:=ua Z;have G1:=ua g1;go_wp2;go_loopw [3,4] (λov t wr=>spI W1 g.nr (rulesT g) ov t wr) (λ_ t _=>g.nr-(intOf t).toNat)
  case atStart=>exact⟨0,Nat.zero_le _,rfl,rfl,Below.refl _ _⟩
  case round =>
   obtain⟨k,hk,rfl,rfl,m⟩:=hrel;have aa:=ua m;have y0:=ue G0 m;have y1:=ue G1 m;clear Z g1 m;by_cases h:k<g.nr
   ·have hlt':(k:Int)<(g.nr:Int):=(by omega);rcases H.rules with q|⟨b,off,rfl,hq,N⟩
    ·omega
    obtain⟨u,y,ba,bc,J,P,L,j,O⟩:=(N k h).body_cap;obtain⟨ι,ae,F,i,A⟩:=uce wr;have f:∀n,Below W1.heap.size W1 (F n):=λn=>uf aa (i n)
    have f0:∀n,(F n).cell? ⟨w.heap.size,0,none⟩=some (.slice (some ⟨b,off,none⟩) g.nr l):=λn=>ue y0 (i n)
    have f1:∀n,(F n).cell? ⟨w.heap.size,1,none⟩=some (.slice la g.nb lc):=λn=>ue y1 (i n)
    have f2:∀n,(F n).cell? ⟨b,off+k*2,none⟩=some (.slice u (g.rule k).nl y):=λn=>ue J (f n)
    have f3:∀n,(F n).cell? ⟨b,off+k*2+1,none⟩=some (.slice ba (g.rule k).bl bc):=λn=>ue L (f n)
    have ad:∀n,(convert 22 9 (.slice u (g.rule k).nl y)).run Tryz.prog (F n)=.ok (.string (ql g k)) (F n):=λn=>vo Q u (g.rule k).nl y (g.rule k).name _ (P.later (f n))
    have R:=ua (A _ (Below.refl _ wr).drew);have T:=ua i;have U:=ua A;have D:=ua f;have W:Hid (∀n,OpsA Q (F n) ba (g.rule k).bl (g.rule k).body):=λn=>j.later (f n)
    have V:Hid (∀n,GramA Q (F n) (some ⟨b,off,none⟩) la g):=λn=>(H.later (f n)).plain
    have S:=ua O;have ag:=(kA d.sound h).2;have B:=ugm d.sound (d.rb k h) (jV d.sound h);have ah:=B.1;have ai:=ulM d.sound k hk;have aj:=jV d.sound h;have X:Hid (rulesT g (k+1)=rulesT g k++(ql g k++⟨#[32,61,32]⟩++tbX g (g.rule k).bl (g.rule k).body++⟨#[32,59,10]⟩)):=(by show _=_;rw[rulesT]);have Y:Hid (∀n,Calls Tryz.prog 46 #[.agg #[.slice (some ⟨b,off,none⟩) g.nr l,.slice la g.nb lc],.slice ba (g.rule k).bl bc] (F n) (vZ (tbX g (g.rule k).bl (g.rule k).body) (F n))):=λn=>B.2 Q _ la ba l lc bc (F n) S (W n) (V n)
    clear i A f N P j O J L hq B;generalize tbX g (g.rule k).bl (g.rule k).body=z at *;generalize ql g k=nm at *;generalize rulesT g k=rt at *;have w1:¬9223372036854775807<nm.size+3:=(by omega);have w2:¬9223372036854775807<nm.size+3+z.size:=(by omega);have w3:¬9223372036854775807<nm.size+3+z.size+3:=(by omega);have w4:¬9223372036854775807<rt.size+(nm.size+3+z.size+3):=(by omega);go_wp2_with fail;refine vv F (by kernel_rfl) (by kernel_rfl) R ?_;repeat (go_big_quiet_step (first|(go_at_call 46;exact ugn (T _) U (Y _))))
    refine wpQuiet_nil ?_;rintro _ ⟨nq,rfl⟩;go_wp2;go_roundw
    case rel=>exact⟨k+1,by omega,by go_num,by rw[X.out],D nq⟩
    case measure=>simp[intOf];omega
   obtain rfl:k=g.nr:=(by omega);go_wp2;go_loopw [3,5] (λov t wr=>spI W1 g.nb (labsT g) ov t wr) (λ_ t _=>g.nb-(intOf t).toNat)
   case atStart=>exact⟨0,Nat.zero_le _,rfl,rfl,aa⟩
   case round =>
    obtain⟨k,hk,rfl,rfl,m⟩:=hrel;have C:=ua m;have y0:=ue G0 m;have y1:=ue G1 m;by_cases h:k<g.nb
    ·have hlt':(k:Int)<(g.nb:Int):=(by omega);rcases H.labs with q|⟨b,off,rfl,hq,N⟩
     ·omega
     obtain⟨u,y,ba,bc,J,P,ch,L,j,O⟩:=(N k h).body_cap;have I:Hid (labsT g (k+1)=if (g.lab k).has then labsT g k++(⟨#[94]⟩++qm g k++⟨#[32,61,32]⟩++tbX g (g.lab k).bl (g.lab k).body++⟨#[32,59,10]⟩) else labsT g k):=(by show _=_;rw[labsT]);have d0:=ue ch C;cases hh:(g.lab k).has with
     |false =>
      rw[hh]at I d0;go_wp2;go_roundw
      case rel=>exact⟨k+1,by omega,by go_num,by rw[I.out];rfl,C⟩
      case measure=>simp[intOf];omega
     |true =>
      rw[hh]at I d0;obtain⟨ι,ae,F,i,A⟩:=uce wr;have f:∀n,Below W1.heap.size W1 (F n):=λn=>uf C (i n)
      have f0:∀n,(F n).cell? ⟨w.heap.size,0,none⟩=some (.slice p g.nr l):=λn=>ue y0 (i n)
      have f1:∀n,(F n).cell? ⟨w.heap.size,1,none⟩=some (.slice (some ⟨b,off,none⟩) g.nb lc):=λn=>ue y1 (i n)
      have f2:∀n,(F n).cell? ⟨b,off+k*3,none⟩=some (.slice u (g.lab k).nl y):=λn=>ue J (f n)
      have f3:∀n,(F n).cell? ⟨b,off+k*3+2,none⟩=some (.slice ba (g.lab k).bl bc):=λn=>ue L (f n)
      have ad:∀n,(convert 22 9 (.slice u (g.lab k).nl y)).run Tryz.prog (F n)=.ok (.string (qm g k)) (F n):=λn=>vo Q u (g.lab k).nl y (g.lab k).name _ (P.later (f n))
      have R:=ua (A _ (Below.refl _ wr).drew);have T:=ua i;have U:=ua A;have D:=ua f;have W:Hid (∀n,OpsA Q (F n) ba (g.lab k).bl (g.lab k).body):=λn=>j.later (f n)
      have V:Hid (∀n,GramA Q (F n) p (some ⟨b,off,none⟩) g):=λn=>(H.later (f n)).plain
      have S:=ua O;have ag:=(kB d.sound h).2;have B:=ugm d.sound (d.lb k h hh) (qT d.sound h);have ah:=B.1;have ai:=uhW d.sound k hk;have aj:=qT d.sound h;have X:=ua (I.out.trans (if_pos rfl));have Y:Hid (∀n,Calls Tryz.prog 46 #[.agg #[.slice p g.nr l,.slice (some ⟨b,off,none⟩) g.nb lc],.slice ba (g.lab k).bl bc] (F n) (vZ (tbX g (g.lab k).bl (g.lab k).body) (F n))):=λn=>B.2 Q p _ ba l lc bc (F n) S (W n) (V n)
      generalize tbX g (g.lab k).bl (g.lab k).body=z at *;generalize qm g k=nm at *;generalize labsT g k=rt at *;have w0:¬9223372036854775807<1+nm.size:=(by omega);have w1:¬9223372036854775807<1+nm.size+3:=(by omega);have w2:¬9223372036854775807<1+nm.size+3+z.size:=(by omega);have w3:¬9223372036854775807<1+nm.size+3+z.size+3:=(by omega);have w4:¬9223372036854775807<rt.size+(1+nm.size+3+z.size+3):=(by omega);go_wp2_with fail;refine vv F (by kernel_rfl) (by kernel_rfl) R ?_;repeat (go_big_quiet_step (first|(go_at_call 46;exact ugn (T _) U (Y _))))
      refine wpQuiet_nil ?_;rintro _ ⟨nq,rfl⟩;go_wp2;go_roundw
      case rel=>exact⟨k+1,by omega,by go_num,by rw[X.out],D nq⟩
      case measure=>simp[intOf];omega
    obtain rfl:k=g.nb:=(by omega);have ab:Hid (labsT g g.nb=s):=ac.symm;obtain⟨a,c,W',af,hI,hB⟩:=ubb wr (labsT g g.nb);rw[ab.out]at af hI ⊢;have HI:=ua hI;have D:=ua hB;go_wp2;go_ret;refine⟨a,c,rfl,?_,uf G (uf C D)⟩;rcases HI.out with q|⟨x,o,e1,rfl,hc⟩
    ·exact .inl q
    by_cases e0:s.size=0
    ·exact .inl e0
    exact .inr ⟨wr.heap.size,o,e1,⟨Nat.le_trans G.size C.size,ud (hc 0 (by omega))⟩,hc⟩
theorem ul{w:World}{b j:Nat}{c:Array Value}{t:TypeId}{v:Value}(h:w.heap[b]?=some (.cells c t))(a:c[j]?=some v):w.cell? ⟨b,j,none⟩=some v:=by
 simp only[World.cell?,h];exact a
theorem uy{w:World}{b j:Nat}{c:Array Value}{t:TypeId}(h:w.heap[b]?=some (.cells c t)):w.frozen? ⟨b,j,none⟩=false:=by
 simp only[World.frozen?,h];simp
theorem yK(w:World)(o:Obj)(b:Nat)(a:b=w.heap.size):(w.alloc o).heap[b]?=some o:=by subst a;exact World.alloc_heap_new w o
theorem uaa{w:World}{b:Nat}{c:Obj}(h:w.heap[b]?=some c)(o:Obj):(w.alloc o).heap[b]?=some c:=by
 rw[Below.heap_alloc w _ _ (by have:=(Array.getElem?_eq_some_iff.1 h).1;exact this)];exact h
theorem vP{w:World}{b j:Nat}{c:Array Value}{t:TypeId}(v:Value)(h:w.heap[b]?=some (.cells c t)):(w.setCell ⟨b,j,none⟩ v).heap[b]?=some (.cells (c.setIfInBounds j v) t):=by
 simp only[World.setCell,Array.getElem?_modify,h,if_true,Option.map_some];rfl
section
open Go.RowKit
open M (OpD ug Gr ur EX ins uH yu wt)
section
variable {α:Type} [Inhabited α] (f:OpD->α->α->α) (B:Nat->OpD)
end
def ugl(l:List ur)(w:World)(e:Ending)(w':World):Prop:=∃a n c L,e=.returned (.slice a n c)/\Hid (n=L.length)/\Hid (L.map IC.d=l)/\Hid (IRow w w' (.slice a n c) L)
theorem jY{l w w' a n c L}(h:IRow w w' (.slice a n c) L)(b:L.map IC.d=l):ugl l w (.returned (.slice a n c)) w':=by
 obtain⟨f,g,e⟩:=h.shape;cases e;exact⟨a,_,c,L,rfl,rfl,b,h⟩
theorem qW{L:List IC}{l:List ur}{n:Nat}(a:n=L.length)(b:L.map IC.d=l):L.length=l.length/\n=l.length:=by
 rw[<-b,List.length_map];exact⟨rfl,a⟩
theorem uhS{n S}(h:M.Canon n S):n<=256:=by
 obtain⟨l,f⟩:=h;obtain⟨k,rfl⟩:∃k,n=2*k:=⟨n / 2,by omega⟩;have d:=(M.pairs_canon S k).2 f;have i:∀j,j<k->2*(j:Int)<=S (2*j):=by
  intro j;induction j with
  |zero=>intro e;have:=(d 0 e).1;simp[M.least]at this;simpa using this
  |succ j g =>
   intro e;have a:=g (by omega);have b:=(d j (by omega)).2.1;have c:=(d (j+1) e).1;unfold M.least at c;rw[if_neg (by omega),show 2*(j+1)-1=2*j+1 by omega]at c
   push_cast
   omega
 by_cases m:k=0
 ·omega
 have a:=i (k-1) (by omega);have b:=d (k-1) (by omega);have:=b.2.1;have:=b.2.2;omega
theorem uqo(args:Array Value)(w:World):(callFunc 95 args).run Tryz.prog w=.ok (.enter 95 args) w:=by
 simp[callFunc,Tryz.func95,Tryz.f95,go_sem]
theorem uqp(args:Array Value)(w:World):(callFunc 94 args).run Tryz.prog w=.ok (.enter 94 args) w:=by
 simp[callFunc,Tryz.func94,Tryz.f94,go_sem]
theorem uqq(args:Array Value)(w:World):(callFunc 96 args).run Tryz.prog w=.ok (.enter 96 args) w:=by
 simp[callFunc,Tryz.func96,Tryz.f96,go_sem]
theorem uqr(args:Array Value)(w:World):(callFunc 56 args).run Tryz.prog w=.ok (.enter 56 args) w:=by
 simp[callFunc,Tryz.func56,Tryz.f56,go_sem]
theorem ulI c la f nr d b lc g o w(n:M.Names o){k a}(m:o.kind=k)(l:o.arg=a)(h:0<=o.arg)(i:o.arg<=1048576)(j:nr<=1048576) :
  Calls Tryz.prog 95 #[.agg #[.slice c nr d,.slice la b lc],.agg #[.int .i64 k,.slice f o.sl g,.int .i64 a]] w λe w'=>e=.returned (.int .i64 (M.tg nr o:Nat))/\Below w.heap.size w w':=by
 subst m l;exact ubP c la f nr d b lc g o w n h i j
end
section
open Go.RowKit
open M (OpD ug Gr ur EX ins uH yu wt)
def EIs(d la:Option Addr)(e lc:Nat)(g:Gr)(Q:Nat->Prop)(b:Nat)(T:TR):Prop :=
  ∀(off c p l:Nat) (a:Int) (w:World),a=(p:Int)->l=T.n->T.Ok (M.ElemOK g.nr g.nb)->T.n<=c->T.n<=2000->TA Q w b T off->GramX Q w d la g->p+(T.fold (M.nodeE g.nr)).len<=100000 ->
    Calls Tryz.prog 56 #[.agg #[.slice d g.nr e,.slice la g.nb lc],.slice (some ⟨b,off,none⟩) l c,.int .i64 a] w (ugl (uH (plc g) (T.fold (M.nodeE g.nr)) p) w)
variable {Q:Nat->Prop} {ra la:Option Addr} {rc lc:Nat} {g:Gr} {b:Nat}
theorem ulF(R:Q b)(o:OpD)(x y:TR)(ix:EIs ra la rc lc g Q b x)(iy:EIs ra la rc lc g Q b y):EIs ra la rc lc g Q b (.bn o x y):=by
  intro off c p l pv w aq hl O hc hn hT hG P;subst aq;have HT:=ua hT;have r:=ua O;have Y:=ua hG;have IX:=ua ix;have IY:=ua iy;clear ix iy;obtain⟨hx,hy,A,⟨sa,sc,c1,au⟩,B⟩:=hT;have HX:=ua hx;have HY:=ua hy;have nx:=x.n0;have ny:=y.n0;simp only[TR.n]at hc hn hl;obtain⟨m,hm⟩:=nm (x.n+y.n);rw[hm]at A c1 B hc hn hl;have J:=ua hm;subst hl;obtain⟨j,hj⟩:=nm x.n;have f:=ua hj;rw[hj]at nx hm;have x2:((m+1:Nat):Int)-1=(m:Int):=by omega
  have x3:(m:Int)<((m+1:Nat):Int):=by omega
  have z6:=uz m (by omega)
  have f1:m<c:=by omega
  have f2:m<=c:=by omega
  have f3:¬c=0:=by omega
  have aw:b<w.heap.size:=ud A;have z7:=uz j (by omega)
  have jm:(j:Int)<(m:Int):=by omega
  have a0:(j:Int)<=(m:Int):=by omega
  have f4:¬c=j:=by omega
  have f5:j<=m:=by omega
  have f6:j<=c:=by omega
  have h:o.kind=4\/o.kind=5:=by have:=O.1;unfold M.ar at this;split at this<;>(try split at this)<;>omega
  obtain⟨d,aj⟩:=nm (x.fold (M.nodeE g.nr)).len;have s:=ua aj;have ah:p+d+(y.fold (M.nodeE g.nr)).len<=100000:=by
    have e:=(M.node_len g.nr o (x.fold (M.nodeE g.nr)) (y.fold (M.nodeE g.nr))).1 O.1;rw[TR.fold,e]at P;omega
  have HP:=ua ah;have ay:p+d<=100000:=by omega
  have av:IntKind.i64.wrap ((p:Int)+(d:Int))=(p:Int)+(d:Int):=by have:=uz (p+d) (by omega);push_cast at this;exact this
  have JX:=ua fun (W:World) (k:Below w.heap.size w W) (q:Nat) (qv:Int) (e:qv=q) (R:q+d<=100000)=>IX.out off c q j qv W e f.out.symm r.out.2.2.1 (by have:=f.out;omega) (by have:=f.out;omega) (HX.out.later k) (Y.out.later k) (by have:=s.out;omega)
  clear hx hy au O hG hj aj ah IX;rcases h with h | h
  · have I:Hid (TR.fold (M.nodeE g.nr) (.bn o x y)=.seq (x.fold (M.nodeE g.nr)) (y.fold (M.nodeE g.nr))):=by show _=_;simp[TR.fold,M.nodeE,h]
    rw[h]at A;clear P h;go_enter Tryz.func56,Tryz.ntmps56;go_wp2_with fail;refine (uaA (HT.out.later (uP w _ _)) r.out J.out (by omega)).mono ?_
    rintro e W ⟨rfl,S⟩;subst W;rw[f.out];go_wp2_with fail;generalize t:(w.alloc _).alloc _=X;have i:Hid (Below w.heap.size w X):=t▸uP w _ _;have H:Box X w.heap.size #[.slice ra g.nr rc,.slice la g.nb lc]:=t▸(ux w _ _).al _;clear t A c1 B;refine (JX.out X i.out p p rfl (by omega)).mono ?_
    rintro e W2 ⟨a2,n2,B,L2,rfl,Z,F,G⟩;have U:Hid (Below w.heap.size w W2):=uf i.out G.out.bel;have ac:=H.on G.out.bel;have y0:W2.cell? ⟨w.heap.size,0,none⟩=some (.slice ra g.nr rc):=ac.x.1 0;have y1:W2.cell? ⟨w.heap.size,1,none⟩=some (.slice la g.nb lc):=ac.x.1 1;have u:=(qW Z.out F.out).1;rw[M.emit_len,s.out]at u;have E:=ua u;clear ac u;go_wp2_with fail;go_region_held3 (fun W'=>W'.cell? ⟨w.heap.size,0,none⟩=some (.slice ra g.nr rc)/\W'.cell? ⟨w.heap.size,1,none⟩=some (.slice la g.nb lc))
      (first|exact⟨u0,u1⟩ | exact⟨y0,y1⟩ | go_keep)
      (first
        | (refine uch uqq rfl (.tmp 124) 68 rfl (y1:=.slice (some ⟨b,off,none⟩) j c) (by simp[Act.eval,Act.put]) ((qZ (w:=W2.drew) (k:=d) (HX.out.later U.out.drew) r.out.2.2.1 R (by have:=f.out;omega) f.out.symm s.out).mono ?_)
           rintro e W ⟨rfl,S⟩;subst W;refine⟨_,rfl,?_⟩)
        | (refine xu uqr rfl (.tmp 121) (.tmp 122) (.tmp 126) 28 68 3 rfl (y1:=.agg #[.slice ra g.nr rc,.slice la g.nb lc]) (y2:=.slice (some ⟨b,off+j*3,none⟩) (m-j) (c-j)) (y3:=.int .i64 ((p:Int)+(d:Int))) (by simp[Act.eval,Act.put]) (by simp[Act.eval,Act.put]) (by simp[Act.eval,Act.put,av]) ((IY.out _ _ (p+d) _ _ W2.drew (by omega) (by omega) r.out.2.2.2 (by omega) (by omega) (f.out▸HY.out.later U.out.drew) (Y.out.later U.out.drew) HP.out).mono ?_)
           rintro e W3 ⟨a3,n3,c3,N,rfl,am,ae,aa⟩;have u0:=ue (w:=W2.drew) (a:=⟨w.heap.size,0,none⟩) (v:=.slice ra g.nr rc) y0 aa.out.bel;have u1:=ue (w:=W2.drew) (a:=⟨w.heap.size,1,none⟩) (v:=.slice la g.nb lc) y1 aa.out.bel;refine⟨_,rfl,?_⟩)
        | (refine utf (w0:=X) (w1:=W2.drew) (L:=L2) (L2:=N) rfl (.tmp 120) (.tmp 127) rfl (v:=.slice a2 n2 B) (y:=.slice a3 n3 c3) (by simp[Act.eval,Act.put]) (by simp[Act.eval,Act.put]) (G.out.later (Below.refl _ W2).drew) aa.out (by have h1:=E.out;have h2:=(qW am.out ae.out).1;rw[M.emit_len]at h2;have:=HP.out;omega) ?_
           intro W4 L4 n4 a4 c4 D E2 z;have ad:=H.on z.out.bel;have u0:W4.cell? ⟨w.heap.size,0,none⟩=some (.slice ra g.nr rc):=ad.x.1 0;have u1:W4.cell? ⟨w.heap.size,1,none⟩=some (.slice la g.nb lc):=ad.x.1 1;clear ad))
    all_goals go_goals
    all_goals go_wp2
    all_goals go_ret
    all_goals exact jY (z.out.since i.out) (by rw[D.out,I.out,uH,List.map_append,F.out,ae.out,s.out])
  · have I:Hid (TR.fold (M.nodeE g.nr) (.bn o x y)=.alt (x.fold (M.nodeE g.nr)) (y.fold (M.nodeE g.nr))):=by show _=_;simp[TR.fold,M.nodeE,h]
    obtain⟨C,T⟩:=nm (TR.fold (M.nodeE g.nr) (.bn o x y)).len;have ap:=ua T;have ai:d+(y.fold (M.nodeE g.nr)).len+2=C:=by rw[<-T,I.out,EX.len,s.out]
    rw[T]at P;have ag:=ua ai;rw[h]at A;have az:p+C<=100000:=P;have ax:p+d+2<=100000:=by omega
    clear h T ai;go_enter Tryz.func56,Tryz.ntmps56;go_wp2_with fail;refine (uaA (HT.out.later (uP w _ _)) r.out J.out (by omega)).mono ?_
    rintro e W ⟨rfl,S⟩;subst W;rw[f.out];go_wp2_with fail;refine (qZ (k:=d) (HX.out.later (uP w _ _)) r.out.2.2.1 R (by have:=f.out;omega) f.out.symm s.out).mono ?_
    rintro e W ⟨rfl,S⟩;subst W;go_wp2_with fail;generalize t:(w.alloc _).alloc _=X;have i:Hid (Below w.heap.size w X):=t▸uP w _ _;have H:Box X w.heap.size #[.slice ra g.nr rc,.slice la g.nb lc]:=t▸(ux w _ _).al _;have hs:X.heap.size=w.heap.size+1+1:=by rw[<-t];simp
    rw[<-hs];have R0:=ua (yL (w:=X) 1 0 ((p:Int)+(d:Int)+2) (Below.refl _ _));have B1:=ua (uf i.out (ui X (.cells #[.int .i64 1,.int .i64 0,.int .i64 ((p:Int)+(d:Int)+2),.slice none 0 0] 86)));clear t A c1 B hs;refine (JX.out _ B1.out (p+1) _ (by omega) (by omega)).mono ?_
    rintro e W2 ⟨a2,n2,B,L2,rfl,Z,F,G⟩;have u:=(qW Z.out F.out).1;rw[M.emit_len,s.out]at u;have E:=ua u;clear u;go_wp2_with (at_builtin;refine uaI (L:=[ic 1 0 ((p:Int)+(d:Int)+2)]) (L2:=L2) rfl _ _ rfl rfl rfl R0.out G.out (by show 1+L2.length<=16777216;have:=E.out;omega) ?_;intro W3 N n3 a3 c3 D E2 z;obtain⟨y0,y1,y2⟩:=(H.on z.out.bel).x)
    have B3:=ua (uf i.out z.out.bel);refine (qZ (k:=C) (HT.out.later B3.out) r.out R (by simp only[TR.n];have:=J.out;omega) (by simp only[TR.n];have:=J.out;omega) ap.out).mono ?_
    rintro e W ⟨rfl,S⟩;subst W;go_wp2_with (at_builtin;refine uaI (L:=N) (L2:=[ic 2 0 ((p:Int)+(C:Int))]) rfl _ _ rfl rfl rfl z.out (yL 2 0 ((p:Int)+(C:Int)) (Below.refl _ W3)) (by show N.length+1<=16777216;have:=E.out;rw[D.out,List.length_append];show 1+L2.length+1<=16777216;omega) ?_;intro W4 L4 n4 a4 c4 G1 G2 V;obtain⟨v0,v1,v2⟩:=(H.on V.out.bel).x)
    have B4:=ua (uf i.out V.out.bel);refine (IY.out _ _ (p+d+2) _ _ W4 (by omega) (by omega) r.out.2.2.2 (by omega) (by omega) (f.out▸HY.out.later B4.out) (Y.out.later B4.out) (by have:=ag.out;omega)).mono ?_
    rintro e W5 ⟨a5,n5,c5,L5,rfl,an,af,ao⟩;have ab:=(qW an.out af.out).1;rw[M.emit_len]at ab;have ak:=ua ab;clear ab;go_wp2_with (at_builtin;refine uaI (L:=L4) (L2:=L5) rfl _ _ rfl rfl rfl V.out ao.out (by have:=E.out;have:=ak.out;have:=HP.out;rw[G1.out,D.out,List.length_append,List.length_append];show 1+L2.length+1+L5.length<=16777216;omega) ?_;intro W6 L6 n6 a6 c6 K1 K2 K3)
    go_ret;refine jY (K3.out.since i.out) ?_;rw[K1.out,G1.out,D.out,I.out,uH,List.map_append,List.map_append,List.map_append,F.out,af.out];show [ins 1 0 ((p:Int)+(d:Int)+2)]++uH (plc g) _ (p+1)++[ins 2 0 ((p:Int)+(C:Int))]++uH (plc g) _ (p+d+2)=_;rw[s.out,<-ag.out,show (p:Int)+(d:Int)+2=((p+d+2:Nat):Int) by omega,show (p:Int)+((d+(y.fold (M.nodeE g.nr)).len+2:Nat):Int)=((p+d+(y.fold (M.nodeE g.nr)).len+2:Nat):Int) by omega]
    simp
theorem ulG(hq:Q b)(o:OpD)(x:TR)(ix:EIs ra la rc lc g Q b x):EIs ra la rc lc g Q b (.un o x):=by
  intro off c p l pv w ae hl I hc hn hT hG hp;subst ae;have HT:=ua hT;have G:=ua I;have HG:=ua hG;have IX:=ua ix;clear ix;obtain⟨hx,s,⟨sa,sc,Z,af⟩,D⟩:=hT;have HX:=ua hx;simp only[TR.n]at hc hn hl;obtain⟨m,hm⟩:=nm x.n;rw[hm]at s Z D hc hn hl;have d:=ua hm;subst hl;have x2:((m+1:Nat):Int)-1=(m:Int):=by omega
  have x3:(m:Int)<((m+1:Nat):Int):=by omega
  have z6:=uz m (by omega)
  have f1:m<c:=by omega
  have f2:m<=c:=by omega
  have f3:¬c=0:=by omega
  have ag:b<w.heap.size:=ud s;have i:o.kind=6\/o.kind=7:=by have:=I.1;unfold M.ar at this;split at this<;>(try split at this)<;>omega
  obtain⟨a,J⟩:=nm (TR.fold (M.nodeE g.nr) (.un o x)).len;have ab:=ua J;have ac:(x.fold (M.nodeE g.nr)).len+2=a:=by rw[<-J,TR.fold,(M.node_len g.nr o (x.fold (M.nodeE g.nr)) default).2.1 I.1];unfold wt;rw[if_neg (by omega),if_pos (by omega)]
  have j:=ua ac;rw[J]at hp;have ah:p<=100000:=by omega
  have ai:a<=100000:=by omega
  clear hx af I hG hm J ac;have ad:∀k N O,(o.kind=6/\k=1/\N=3/\O=(p:Int)+1)\/(o.kind=7/\k=4/\N=5/\O=(0:Int))->uH (plc g) (TR.fold (M.nodeE g.nr) (.un o x)) p = [ins k 0 ((p:Int)+(a:Int))]++uH (plc g) (x.fold (M.nodeE g.nr)) (p+1)++[ins N 0 O]:=by
    intro k N O h;rw[<-j.out,show (p:Int)+(((x.fold (M.nodeE g.nr)).len+2:Nat):Int)=((p+(x.fold (M.nodeE g.nr)).len+2:Nat):Int) by omega]
    rcases h with⟨h,rfl,rfl,rfl⟩|⟨h,rfl,rfl,rfl⟩
    · simp[TR.fold,M.nodeE,h,uH]
    · simp[TR.fold,M.nodeE,h,uH]
  have H:=ua ad;clear ad;rcases i with i | i
  · have U:=ua (H.out 1 3 ((p:Int)+1) (.inl ⟨i,rfl,rfl,rfl⟩))
    rw[i]at s;clear i H;go_enter Tryz.func56,Tryz.ntmps56;go_wp2_with fail;refine (qZ (k:=a) (HT.out.later (uP w _ _)) G.out hq (by simp only[TR.n];have:=d.out;omega) (by simp only[TR.n];have:=d.out;omega) ab.out).mono ?_
    rintro e W ⟨rfl,hw⟩;subst W;go_wp2_with fail;generalize r:(w.alloc _).alloc _=X;have u:Hid (Below w.heap.size w X):=r▸uP w _ _;have E:X.heap.size=w.heap.size+1+1:=by rw[<-r];simp
    rw[<-E];generalize f:(X.alloc _).alloc _=Y;have v:Hid (Below X.heap.size X Y):=f▸uP X _ _;have aa:Box Y (X.heap.size+1) #[.int .i64 3,.int .i64 0,.int .i64 ((p:Int)+1),.slice none 0 0]:=f▸yG _ _ _ _ (by simp)
    have F:Y.heap.size=X.heap.size+1+1:=by rw[<-f];simp
    rw[<-F];have R0:=ua (yL (w:=Y) 1 0 ((p:Int)+(a:Int)) (Below.refl _ _));have t:=ua (uf (uf u.out v.out) (ui Y (.cells #[.int .i64 1,.int .i64 0,.int .i64 ((p:Int)+(a:Int)),.slice none 0 0] 86)));clear r f s Z D E F;refine (IX.out off c (p+1) m _ _ (by omega) d.out.symm G.out.2.2 (by have:=d.out;omega) (by have:=d.out;omega) (HX.out.later t.out) (HG.out.later t.out) (by have:=j.out;omega)).mono ?_
    rintro e W2 ⟨a2,n2,D,L2,rfl,S,B,T⟩;have q:=(qW S.out B.out).1;rw[M.emit_len]at q;have A:=ua q;clear q;go_wp2_with (first
      | (at_builtin;refine uaI (L:=[ic 1 0 ((p:Int)+(a:Int))]) (L2:=L2) rfl _ _ rfl rfl rfl R0.out T.out (by show 1+L2.length<=16777216;have:=A.out;have:=j.out;omega) ?_;intro V C n3 a3 c3 y E2 z;obtain⟨y0,y1,y2⟩:=(aa.on z.out.bel).x)
      | (at_builtin;refine uaI (L:=C) (L2:=[ic 3 0 ((p:Int)+1)]) rfl _ _ rfl rfl rfl z.out (yL 3 0 ((p:Int)+1) (Below.refl _ V)) (by show C.length+1<=16777216;have:=A.out;have:=j.out;rw[y.out,List.length_append];show 1+L2.length+1<=16777216;omega) ?_;intro W4 L4 n4 a4 c4 P G2 R))
    go_ret;refine jY (R.out.since (uf u.out v.out)) ?_;rw[P.out,y.out,List.map_append,List.map_append,B.out,U.out];rfl
  · have U:=ua (H.out 4 5 (0) (.inr ⟨i,rfl,rfl,rfl⟩))
    rw[i]at s;clear i H;go_enter Tryz.func56,Tryz.ntmps56;go_wp2_with fail;refine (qZ (k:=a) (HT.out.later (uP w _ _)) G.out hq (by simp only[TR.n];have:=d.out;omega) (by simp only[TR.n];have:=d.out;omega) ab.out).mono ?_
    rintro e W ⟨rfl,hw⟩;subst W;go_wp2_with fail;generalize r:(w.alloc _).alloc _=X;have u:Hid (Below w.heap.size w X):=r▸uP w _ _;have E:X.heap.size=w.heap.size+1+1:=by rw[<-r];simp
    rw[<-E];generalize f:(X.alloc _).alloc _=Y;have v:Hid (Below X.heap.size X Y):=f▸uP X _ _;have aa:Box Y (X.heap.size+1) #[.int .i64 5,.int .i64 0,.int .i64 (0),.slice none 0 0]:=f▸yG _ _ _ _ (by simp)
    have F:Y.heap.size=X.heap.size+1+1:=by rw[<-f];simp
    rw[<-F];have R0:=ua (yL (w:=Y) 4 0 ((p:Int)+(a:Int)) (Below.refl _ _));have t:=ua (uf (uf u.out v.out) (ui Y (.cells #[.int .i64 4,.int .i64 0,.int .i64 ((p:Int)+(a:Int)),.slice none 0 0] 86)));clear r f s Z D E F;refine (IX.out off c (p+1) m _ _ (by omega) d.out.symm G.out.2.2 (by have:=d.out;omega) (by have:=d.out;omega) (HX.out.later t.out) (HG.out.later t.out) (by have:=j.out;omega)).mono ?_
    rintro e W2 ⟨a2,n2,D,L2,rfl,S,B,T⟩;have q:=(qW S.out B.out).1;rw[M.emit_len]at q;have A:=ua q;clear q;go_wp2_with (first
      | (at_builtin;refine uaI (L:=[ic 4 0 ((p:Int)+(a:Int))]) (L2:=L2) rfl _ _ rfl rfl rfl R0.out T.out (by show 1+L2.length<=16777216;have:=A.out;have:=j.out;omega) ?_;intro V C n3 a3 c3 y E2 z;obtain⟨y0,y1,y2⟩:=(aa.on z.out.bel).x)
      | (at_builtin;refine uaI (L:=C) (L2:=[ic 5 0 (0)]) rfl _ _ rfl rfl rfl z.out (yL 5 0 (0) (Below.refl _ V)) (by show C.length+1<=16777216;have:=A.out;have:=j.out;rw[y.out,List.length_append];show 1+L2.length+1<=16777216;omega) ?_;intro W4 L4 n4 a4 c4 P G2 R))
    go_ret;refine jY (R.out.since (uf u.out v.out)) ?_;rw[P.out,y.out,List.map_append,List.map_append,B.out,U.out];rfl
theorem ulH(u:M.Sound g)(o:OpD):EIs ra la rc lc g Q b (.lf o):=by
  intro off c p l pv w ad U hk T hn hT O hp;subst ad;simp only[TR.n]at T hn U;subst U;obtain⟨q,⟨r,s,c1,V⟩,N⟩:=hT;have J:=ua O;have HS:=ua V;have f1:0<c:=T;have f3:¬c=0:=by omega
  have af:b<w.heap.size:=ud q;obtain⟨y,h⟩:=hk;obtain⟨j,i⟩:=ubV h;have a:o.kind=0\/o.kind=1\/o.kind=2\/o.kind=3:=by have:=h.1;have:=h.2.1;unfold M.ar at y;split at y<;>(try split at y)<;>omega
  have f:=h.2.2.2.2.2;have hr:=u.r2;have D:=u.l2;have L:=ua u;clear V O u y;rw[i]at N;rcases a with a | a | a | a
  · have m:Hid (TR.fold (M.nodeE g.nr) (.lf o)=.empty):=by show _=_;simp[TR.fold,M.nodeE,a]
    rw[a]at q;clear a f h;go_enter Tryz.func56,Tryz.ntmps56;go_wp2;go_ret;exact jY (IRow.nil (uP w _ _)) (by rw[m.out];rfl)
  · have m:Hid (TR.fold (M.nodeE g.nr) (.lf o)=.set o.sl o.set):=by show _=_;simp[TR.fold,M.nodeE,a]
    have ae:o.sl<=1048576:=by have:=uhS (h.2.2.1 a);omega
    rw[a]at q;clear a f h;go_enter Tryz.func56,Tryz.ntmps56;go_wp2_with (at_builtin;refine uqW rfl _ _ rfl rfl rfl (HS.out.later (uP w _ _)) ae ?_;intro W a' c' E1 E2);go_ret;exact jY (ujt (x:=⟨⟨0,0,0,o.sl,o.set⟩,a',c'⟩) (S:=New w W) (uf (uP w _ _) E2.out) (E1.out.wide (fun z A=>⟨Nat.le_trans (uP w _ _).size A.1,A.2⟩)) (fun z A=>A)) (by rw[m.out];rfl)
  · have m:Hid (TR.fold (M.nodeE g.nr) (.lf o)=.ref j):=by show _=_;simp[TR.fold,M.nodeE,a,i]
    unfold M.most at f;rw[if_neg (by omega),if_pos a,i]at f
    have E:j<g.nr+g.nb:=by omega
    rw[a]at q;clear a h i;go_enter Tryz.func56,Tryz.ntmps56;go_wp2_with (go_at_call 94;refine (ucC Q ra la rc lc g L.out _ (J.out.later (uP w _ _)) j E).mono ?_;rintro e W ⟨rfl,D⟩;have HW:Hid (Below w.heap.size w W):=uf (uP w _ _) D;clear D);go_ret;exact jY (yL 6 0 (plc g j) HW.out) (by rw[m.out];rfl)
  · have m:Hid (TR.fold (M.nodeE g.nr) (.lf o)=.thr j (g.nr+j)):=by show _=_;simp[TR.fold,M.nodeE,a,i]
    obtain⟨t,F⟩:=nm (g.nr+j);have ab:=ua F;have aa:Hid (M.tg g.nr o=t):=by show _=_;unfold M.tg;rw[if_pos a,i];exact F
    have ac:=ua (ulI ra la r g.nr rc g.nb lc s o · (.inr a) a i (by omega) (by unfold M.most at f;rw[if_pos a]at f;omega) (by omega))
    have E:t<g.nr+g.nb:=by unfold M.most at f;rw[if_pos a,i]at f;omega
    rw[a]at q;clear a h i f F;go_enter Tryz.func56,Tryz.ntmps56;go_wp2_with fail;generalize v:(w.alloc _).alloc _=X;have I:Hid (Below w.heap.size w X):=v▸uP w _ _;have Y:Box X w.heap.size #[.slice ra g.nr rc,.slice la g.nb lc]:=v▸(ux w _ _).al _;have G:Box X (w.heap.size+1) #[.int .i64 3,.slice r o.sl s,.int .i64 j]:=v▸yG _ _ _ _ (by simp)
    clear v q c1 N;have C:Hid (∀d,Below X.heap.size X d->d.cell? ⟨w.heap.size,0,none⟩=some (.slice ra g.nr rc)/\d.cell? ⟨w.heap.size,1,none⟩=some (.slice la g.nb lc)/\d.cell? ⟨w.heap.size+1,0,none⟩=some (.int .i64 3)/\d.cell? ⟨w.heap.size+1,1,none⟩=some (.slice r o.sl s)/\d.cell? ⟨w.heap.size+1,2,none⟩=some (.int .i64 j)):=fun W k=>⟨(Y.on k).x.1 0,(Y.on k).x.1 1,(G.on k).x.1 0,(G.on k).x.1 1,(G.on k).x.1 2⟩
    obtain⟨y0,y1,y2,y3,y4⟩:=C.out X (Below.refl _ _);go_region_held3 (fun d=>d.cell? ⟨w.heap.size,0,none⟩=some (.slice ra g.nr rc)/\d.cell? ⟨w.heap.size,1,none⟩=some (.slice la g.nb lc)/\d.cell? ⟨w.heap.size+1,0,none⟩=some (.int .i64 3)/\d.cell? ⟨w.heap.size+1,1,none⟩=some (.slice r o.sl s)/\d.cell? ⟨w.heap.size+1,2,none⟩=some (.int .i64 j))
      (first|exact⟨Z,z1,z2,z3,z4⟩ | exact⟨y0,y1,y2,y3,y4⟩ | go_keep)
      (first
        | (refine yk uqo rfl (.tmp 56) (.tmp 57) 28 118 rfl (y1:=.agg #[.slice ra g.nr rc,.slice la g.nb lc]) (y2:=.agg #[.int .i64 3,.slice r o.sl s,.int .i64 j]) (by simp[Act.eval,Act.put]) (by simp[Act.eval,Act.put]) ((ac.out X.drew).mono ?_)
           rintro e W2 ⟨rfl,P⟩;rw[aa.out];have B:Hid (Below X.heap.size X W2):=(Below.refl _ X).drew.trans P;obtain⟨Z,z1,z2,z3,z4⟩:=C.out W2 B.out;clear P;refine⟨_,rfl,?_⟩)
        | (refine yk uqp rfl (.tmp 55) (.tmp 58) 28 3 rfl (y1:=.agg #[.slice ra g.nr rc,.slice la g.nb lc]) (y2:=.int .i64 (t:Int)) (by simp[Act.eval,Act.put]) (by simp[Act.eval,Act.put]) ((ucC Q ra la rc lc g L.out W2 (J.out.later (uf I.out B.out)) t E).mono ?_)
           rintro e W3 ⟨rfl,R⟩;have H:=ua (uf B.out R);obtain⟨Z,z1,z2,z3,z4⟩:=C.out W3 H.out;clear R;refine⟨_,rfl,?_⟩))
    all_goals go_goals
    all_goals go_wp2
    all_goals go_ret
    all_goals exact jY (yL 8 j (plc g t) (uf I.out H.out)) (by rw[m.out,ab.out];rfl)
theorem uot(c:M.Sound g)(a:Q b)(T:TR):EIs ra la rc lc g Q b T:=by
  induction T with
  |lf o=>exact ulH c o
  |un o x d=>exact ulG a o x d
  |bn o x y e f=>exact ulF a o x y e f
end
end Go.Proofs.YtimfigongapdnaaGreat
