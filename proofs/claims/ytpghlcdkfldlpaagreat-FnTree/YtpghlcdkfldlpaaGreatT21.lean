import Derived.Test.YtpghlcdkfldlpaaGreatT20
set_option linter.unusedVariables false
set_option linter.unusedSimpArgs false
set_option maxHeartbeats 40000000
set_option maxRecDepth 100000
namespace Go.Proofs.YtpghlcdkfldlpaaGreat
open Go.RowKit
open M (OpD ue Gr TX b1)
def Txt(g:Gr)(s:ByteArray):Prop:=(M.Valid g/\s=upJ g)\/(¬M.Valid g/\s=ByteArray.empty)
theorem uhB g:∃s,Txt g s/\s.size<=2700000:=by
 by_cases h:M.Valid g
 ·exact⟨_,.inl ⟨h,rfl⟩,uhr h.sound g.nb (Nat.le_refl _)⟩
 exact⟨_,.inr ⟨h,rfl⟩,by simp⟩
def spI(W1:World)(n:Nat)(f:Nat->ByteArray)(b a:Value)(wr:World):Prop:=∃k:Nat,k<=n/\a=.int .i64 (k:Int)/\b=.string (f k)/\Below W1.heap.size W1 wr
def unN(s:ByteArray)(w:World)(e:Ending)(w':World):Prop:=∃a c,e=.returned (.slice a s.size c)/\Ints (New w w') .u8 w' a s.size (bT s)/\Below w.heap.size w w'
theorem RuleX.body_cap{Q w b o d}(h:RuleX Q w b o d):∃a e ba bc,w.cell? ⟨b,o,none⟩=some (.slice a d.nl e)/\Ints Q .u8 w a d.nl d.name/\w.cell? ⟨b,o+1,none⟩=some (.slice ba d.bl bc)/\OpsA Q w ba d.bl d.body/\d.bl<=bc:=by
 obtain⟨⟨⟨a,e,g,k⟩,⟨l,m,c,i⟩⟩,⟨ba,bc,f,j⟩⟩:=h;rw[f]at c;simp at c;obtain⟨rfl,rfl⟩:=c;exact⟨a,e,_,_,g,k,f,i,j⟩
theorem LabX.body_cap{Q w b o d}(h:LabX Q w b o d):∃a e ba bc,w.cell? ⟨b,o,none⟩=some (.slice a d.nl e)/\Ints Q .u8 w a d.nl d.name/\w.cell? ⟨b,o+1,none⟩=some (.bool d.has)/\w.cell? ⟨b,o+2,none⟩=some (.slice ba d.bl bc)/\OpsA Q w ba d.bl d.body/\d.bl<=bc:=by
 obtain⟨⟨⟨a,e,g,l⟩,k,⟨m,n,c,i⟩⟩,⟨ba,bc,f,j⟩⟩:=h;rw[f]at c;simp at c;obtain⟨rfl,rfl⟩:=c;exact⟨a,e,_,_,g,l,k,f,i,j⟩
theorem ud5 Q p la l lc g s w(hG:GramX Q w p la g)(hs:vP g)(hT:Txt g s) :
  Calls Tryz.prog 15 #[.agg #[.slice p g.nr l,.slice la g.nb lc]] w (unN s w):=by
 have HG:=ua hG;have HS:=ua hs;have HT:=ua hT;clear hG hs hT;go_enter Tryz.func15,Tryz.ntmps15;go_wp2_with fail;refine(qw Q p la l lc g _ (HG.later (uf w _)).plain HS).mono ?_;rintro e W1 ⟨⟨r,rfl,D⟩,j⟩;have g0:=uc (a:=⟨w.heap.size,0,none⟩) (v:=.slice p g.nr l) (cN w.heap.size rfl rfl) j;have g1:=uc (a:=⟨w.heap.size,1,none⟩) (v:=.slice la g.nb lc) (cN w.heap.size rfl rfl) j;have E:=ua (ud (uf w _) j);have al:=ub g0;clear j;cases r with
 |false =>
  have d:Hid (s=ByteArray.empty):=by
   rcases HT.out with⟨q,_⟩|⟨_,q⟩
   ·exact absurd (D.2 q) (by decide)
   exact q
  clear D;go_wp2;go_ret;exact⟨none,0,by rw[d.out];rfl,.inl (by rw[d.out];rfl),E⟩
 |true =>
  have d:=ua (D.1 rfl);have ad:Hid (s=upJ g):=by
   rcases HT.out with⟨_,q⟩|⟨q,_⟩
   ·exact q
   exact absurd (D.1 rfl) q
  clear D;have h1:=d.r2;have h2:=d.l2;have G:=ua (HG.later E);have G0:=ua g0;have G1:=ua g1;go_wp2;go_loopw [3,4] (λov t wr=>spI W1 g.nr (ju g) ov t wr) (λ_ t _=>g.nr-(intOf t).toNat)
  case atStart=>exact⟨0,Nat.zero_le _,rfl,rfl,Below.refl _ _⟩
  case round =>
   obtain⟨k,hk,rfl,rfl,m⟩:=hrel;have ab:=ua m;have y0:=uc G0 m;have y1:=uc G1 m;clear g0 g1 m;by_cases h:k<g.nr
   ·have hlt':(k:Int)<(g.nr:Int):=(by omega);rcases G.rules with q|⟨b,off,rfl,hq,L⟩
    ·omega
    obtain⟨u,y,ba,bc,I,P,J,j,N⟩:=(L k h).body_cap;obtain⟨ι,af,F,i,A⟩:=jz wr;have f:∀n,Below W1.heap.size W1 (F n):=λn=>ud ab (i n)
    have f0:∀n,(F n).cell? ⟨w.heap.size,0,none⟩=some (.slice (some ⟨b,off,none⟩) g.nr l):=λn=>uc y0 (i n)
    have f1:∀n,(F n).cell? ⟨w.heap.size,1,none⟩=some (.slice la g.nb lc):=λn=>uc y1 (i n)
    have f2:∀n,(F n).cell? ⟨b,off+k*2,none⟩=some (.slice u (g.rule k).nl y):=λn=>uc I (f n)
    have f3:∀n,(F n).cell? ⟨b,off+k*2+1,none⟩=some (.slice ba (g.rule k).bl bc):=λn=>uc J (f n)
    have ae:∀n,(convert 22 9 (.slice u (g.rule k).nl y)).run Tryz.prog (F n)=.ok (.string (jS g k)) (F n):=λn=>vD Q u (g.rule k).nl y (g.rule k).name _ (P.later (f n))
    have S:=ua (A _ (Below.refl _ wr).drew);have U:=ua i;have V:=ua A;have C:=ua f;have Y:Hid (∀n,OpsA Q (F n) ba (g.rule k).bl (g.rule k).body):=λn=>j.later (f n)
    have W:Hid (∀n,GramA Q (F n) (some ⟨b,off,none⟩) la g):=λn=>(G.later (f n)).plain
    have R:=ua (d.rb k h);have T:=ua N;have X:=ua (ua6 d.sound h);have ah:=(kT d.sound h).2;have ai:=uav d.sound (d.rb k h);have aj:=uk9 d.sound k hk;have ak:=ua6 d.sound h;have Z:Hid (ju g (k+1)=ju g k++(jS g k++⟨#[32,61,32]⟩++(jT g (g.rule k).bl (g.rule k).body).text++⟨#[32,59,10]⟩)):=rfl;have aa:Hid (∀n,Calls Tryz.prog 46 #[.agg #[.slice (some ⟨b,off,none⟩) g.nr l,.slice la g.nb lc],.slice ba (g.rule k).bl bc] (F n) (yf (jT g (g.rule k).bl (g.rule k).body).text (F n))):=λn=>ucA Q (some ⟨b,off,none⟩) la ba l lc (g.rule k).bl bc g d.sound (g.rule k).body (F n) X T (Y n) R (W n)
    clear i A f L P j N I J hq;generalize (jT g (g.rule k).bl (g.rule k).body).text=z at *;generalize jS g k=nm at *;generalize ju g k=rt at *;have w1:¬9223372036854775807<nm.size+3:=(by omega);have w2:¬9223372036854775807<nm.size+3+z.size:=(by omega);have w3:¬9223372036854775807<nm.size+3+z.size+3:=(by omega);have w4:¬9223372036854775807<rt.size+(nm.size+3+z.size+3):=(by omega);go_wp2_with fail;refine uE F (by kernel_rfl) (by kernel_rfl) S ?_;repeat (go_big_quiet_step (first|(go_at_call 46;exact xY (U _) V (aa _))))
    refine wpQuiet_nil ?_;rintro _ ⟨nq,rfl⟩;go_wp2;go_roundw
    case rel=>exact⟨k+1,by omega,by go_num,by rw[Z.out],C nq⟩
    case measure=>simp[intOf];omega
   obtain rfl:k=g.nr:=(by omega);go_wp2;go_loopw [3,5] (λov t wr=>spI W1 g.nb (ke g) ov t wr) (λ_ t _=>g.nb-(intOf t).toNat)
   case atStart=>exact⟨0,Nat.zero_le _,rfl,rfl,ab⟩
   case round =>
    obtain⟨k,hk,rfl,rfl,m⟩:=hrel;have B:=ua m;have y0:=uc G0 m;have y1:=uc G1 m;by_cases h:k<g.nb
    ·have hlt':(k:Int)<(g.nb:Int):=(by omega);rcases G.labs with q|⟨b,off,rfl,hq,L⟩
     ·omega
     obtain⟨u,y,ba,bc,I,P,ch,J,j,N⟩:=(L k h).body_cap;have H:Hid (ke g (k+1)=if (g.lab k).has then ke g k++(b1 94++ufb (jl g k) (ujW g k)) else ke g k):=rfl;have d0:=uc ch B;cases O:(g.lab k).has with
     |false =>
      rw[O]at H d0;go_wp2;go_roundw
      case rel=>exact⟨k+1,by omega,by go_num,by rw[H.out];rfl,B⟩
      case measure=>simp[intOf];omega
     |true =>
      rw[O]at H d0;obtain⟨ι,af,F,i,A⟩:=jz wr;have f:∀n,Below W1.heap.size W1 (F n):=λn=>ud B (i n)
      have f0:∀n,(F n).cell? ⟨w.heap.size,0,none⟩=some (.slice p g.nr l):=λn=>uc y0 (i n)
      have f1:∀n,(F n).cell? ⟨w.heap.size,1,none⟩=some (.slice (some ⟨b,off,none⟩) g.nb lc):=λn=>uc y1 (i n)
      have f2:∀n,(F n).cell? ⟨b,off+k*3,none⟩=some (.slice u (g.lab k).nl y):=λn=>uc I (f n)
      have f3:∀n,(F n).cell? ⟨b,off+k*3+2,none⟩=some (.slice ba (g.lab k).bl bc):=λn=>uc J (f n)
      have ae:∀n,(convert 22 9 (.slice u (g.lab k).nl y)).run Tryz.prog (F n)=.ok (.string (jl g k)) (F n):=λn=>vD Q u (g.lab k).nl y (g.lab k).name _ (P.later (f n))
      have S:=ua (A _ (Below.refl _ wr).drew);have U:=ua i;have V:=ua A;have C:=ua f;have Y:Hid (∀n,OpsA Q (F n) ba (g.lab k).bl (g.lab k).body):=λn=>j.later (f n)
      have W:Hid (∀n,GramA Q (F n) p (some ⟨b,off,none⟩) g):=λn=>(G.later (f n)).plain
      have R:=ua (d.lb k h O);have T:=ua N;have X:=ua (ub2 d.sound h);have ah:=(xF d.sound h).2;have ai:=uav d.sound (d.lb k h O);have aj:=uhr d.sound k hk;have ak:=ub2 d.sound h;have Z:Hid (ke g (k+1)=ke g k++(⟨#[94]⟩++jl g k++⟨#[32,61,32]⟩++(jT g (g.lab k).bl (g.lab k).body).text++⟨#[32,59,10]⟩)):=by
       rw[H.out,if_pos rfl];unfold ufb ujW;simp only[ByteArray.append_assoc];rfl
      have aa:Hid (∀n,Calls Tryz.prog 46 #[.agg #[.slice p g.nr l,.slice (some ⟨b,off,none⟩) g.nb lc],.slice ba (g.lab k).bl bc] (F n) (yf (jT g (g.lab k).bl (g.lab k).body).text (F n))):=λn=>ucA Q p (some ⟨b,off,none⟩) ba l lc (g.lab k).bl bc g d.sound (g.lab k).body (F n) X T (Y n) R (W n)
      generalize (jT g (g.lab k).bl (g.lab k).body).text=z at *;generalize jl g k=nm at *;generalize ke g k=rt at *;have w0:¬9223372036854775807<1+nm.size:=(by omega);have w1:¬9223372036854775807<1+nm.size+3:=(by omega);have w2:¬9223372036854775807<1+nm.size+3+z.size:=(by omega);have w3:¬9223372036854775807<1+nm.size+3+z.size+3:=(by omega);have w4:¬9223372036854775807<rt.size+(1+nm.size+3+z.size+3):=(by omega);go_wp2_with fail;refine uE F (by kernel_rfl) (by kernel_rfl) S ?_;repeat (go_big_quiet_step (first|(go_at_call 46;exact xY (U _) V (aa _))))
      refine wpQuiet_nil ?_;rintro _ ⟨nq,rfl⟩;go_wp2;go_roundw
      case rel=>exact⟨k+1,by omega,by go_num,by rw[Z.out],C nq⟩
      case measure=>simp[intOf];omega
    obtain rfl:k=g.nb:=(by omega);have ac:Hid (ke g g.nb=s):=ad.symm;obtain⟨a,c,W',ag,hI,hB⟩:=ubc wr (ke g g.nb);rw[ac.out]at ag hI ⊢;have HI:=ua hI;have C:=ua hB;go_wp2;go_ret;refine⟨a,c,rfl,?_,ud E (ud B C)⟩;rcases HI.out with q|⟨x,o,e1,rfl,hc⟩
    ·exact .inl q
    by_cases e0:s.size=0
    ·exact .inl e0
    exact .inr ⟨wr.heap.size,o,e1,⟨Nat.le_trans E.size B.size,ub (hc 0 (by omega))⟩,hc⟩
theorem ui{w:World}{b j:Nat}{c:Array Value}{t:TypeId}{v:Value}(h:w.heap[b]?=some (.cells c t))(a:c[j]?=some v):w.cell? ⟨b,j,none⟩=some v:=by
 simp only[World.cell?,h];exact a
theorem ur{w:World}{b j:Nat}{c:Array Value}{t:TypeId}(h:w.heap[b]?=some (.cells c t)):w.frozen? ⟨b,j,none⟩=false:=by
 simp only[World.frozen?,h];simp
theorem yE(w:World)(o:Obj)(b:Nat)(a:b=w.heap.size):(w.alloc o).heap[b]?=some o:=by subst a;exact World.alloc_heap_new w o
theorem uag{w:World}{b:Nat}{c:Obj}(h:w.heap[b]?=some c)(o:Obj):(w.alloc o).heap[b]?=some c:=by
 rw[Below.heap_alloc w _ _ (by have:=(Array.getElem?_eq_some_iff.1 h).1;exact this)];exact h
theorem vX{w:World}{b j:Nat}{c:Array Value}{t:TypeId}(v:Value)(h:w.heap[b]?=some (.cells c t)):(w.setCell ⟨b,j,none⟩ v).heap[b]?=some (.cells (c.setIfInBounds j v) t):=by
 simp only[World.setCell,Array.getElem?_modify,h,if_true,Option.map_some];rfl
open M (um EX ins uG yN wt)
def kz(g:Gr)(p:Nat):Bool:=decide (0<(nd g p).bl)
def trG(g:Gr)(p:Nat):EX:=M.treeE g.nr (nd g p).bl (nd g p).body
def opG(g:Gr)(p:Nat):um:=if p<g.nr then ins 9 p 0 else ins 10 ((p-g.nr:Nat):Int) 0
def PL(g:Gr)(k:Nat):Nat:=(M.progC (λ_=>0) (opG g) (trG g) (kz g) k).length
def plc(g:Gr)(p:Nat):Int:=M.placeC (opG g) (trG g) (kz g) p
theorem ud1 g p:plc g p=if 0<(nd g p).bl then (PL g p:Int) else -1:=by
 unfold plc M.placeC PL;by_cases h:0<(nd g p).bl
 ·have e:kz g p=true:=by simp[kz,h]
  rw[if_pos e,if_pos h]
 have e:¬kz g p=true:=by simp[kz,h]
 rw[if_neg e,if_neg h]
theorem uj5 g k:PL g (k+1)=if 0<(nd g k).bl then PL g k+((trG g k).len+3) else PL g k:=by
 unfold PL;rw[M.progC];by_cases h:0<(nd g k).bl
 ·have e:kz g k=true:=by simp[kz,h]
  rw[if_pos e,if_pos h,List.length_append,M.nodeC_len]
 have e:¬kz g k=true:=by simp[kz,h]
 rw[if_neg e,if_neg h]
theorem jU{nr a n B}(h:M.BodyOK nr a n B):(M.treeE nr n B).len=yN B n:=by
 have:=M.top_len nr B n 0 _ h.2.1 (jV (M.nodeE nr) B n h.2) (Nat.zero_le _);simp only[yN,Nat.add_zero]at this;exact this
def usf(w:World)(T:Nat->OpD)(n:Nat)(b a:Value)(wr:World):Prop:=∃k:Nat,k<=n/\a=.int .i64 (k:Int)/\b=.int .i64 ((yN T k:Nat):Int)/\wr=w
theorem ud2 Q a n c T w(d:OpsA Q w a n T)(g:∀i,i<n->0<=(T i).kind/\(T i).kind<=7)(s:n<=2000) :
  Calls Tryz.prog 92 #[.slice a n c] w λe w'=>e=.returned (.int .i64 ((yN T n:Nat):Int))/\w=w':=by
 have j:=ua d;have l:=ua g;go_enter Tryz.func92,Tryz.ntmps92;go_wp2;go_loopw [3,4] (λp f wr=>usf w T n p f wr) (λ_ f _=>n-(intOf f).toNat)
 case atStart=>exact⟨0,Nat.zero_le _,rfl,rfl,rfl⟩
 case round =>
  obtain⟨k,g,rfl,rfl,rfl⟩:=hrel;have u:=M.wsum_bd T k;by_cases h:k<n
  ·rcases j.out with r|⟨b,off,rfl,t,d⟩
   ·omega
   obtain⟨q,_,_⟩:=d k h;obtain⟨v,x⟩:=l k h;have m:Hid (yN T (k+1)=yN T k+wt (T k).kind):=rfl;have hlt':(k:Int)<(n:Int):=(by omega);generalize yN T k=y at *;have o:(T k).kind=0\/(T k).kind=1\/(T k).kind=2\/(T k).kind=3\/(T k).kind=4\/(T k).kind=5\/(T k).kind=6\/(T k).kind=7:=(by omega);generalize (T k).kind=kd at *;rcases o with rfl|rfl|rfl|rfl|rfl|rfl|rfl|rfl;all_goals (
    go_wp2;go_roundw
    case rel=>exact⟨k+1,by omega,by go_num,by rw[m.out];first|rfl|(simp[wt]),rfl⟩
    case measure=>simp[intOf];omega)
  obtain rfl:k=n:=by omega
  go_wp2;go_ret;exact⟨rfl,rfl⟩
theorem ui2{nr b n:Nat}{B:Nat->OpD}(h:∀i,i<n->M.ElemOK nr b (B i)):∀i,i<n->0<=(B i).kind/\(B i).kind<=7:=λi a=>⟨(h i a).1,(h i a).2.1⟩
theorem kU{g}(h:M.Sound g){p}(b:p<g.nr+g.nb):unL g p:=by
 unfold unL;by_cases e:p<g.nr
 ·rw[yd g e];exact .inr (h.rb p e)
 obtain⟨i,rfl⟩:∃i,p=g.nr+i:=⟨p-g.nr,by omega⟩;rw[xE];cases a:(g.lab i).has with
 |true=>exact .inr (h.lb i (by omega) a)
 |false=>exact .inl (h.lz i (by omega) a)
theorem uj6{g}(b:M.Sound g){p}(c:p<g.nr+g.nb):(nd g p).bl<=2000:=by
 have a:=b.ol;unfold M.ops at a;by_cases e:p<g.nr
 ·rw[yd g e];have:=M.le_sum (λi=>(g.rule i).bl) e;omega
 obtain⟨i,rfl⟩:∃i,p=g.nr+i:=⟨p-g.nr,by omega⟩;rw[xE];have:=M.le_sum (λi=>(g.lab i).bl) (i:=i) (n:=g.nb) (by omega);omega
theorem uq8{g}k(f:k<=g.nr+g.nb):M.sum (λi=>(nd g i).bl) k<=M.ops g:=by
 unfold M.ops;by_cases e:k<=g.nr
 ·have b:∀j,j<=g.nr->M.sum (λi=>(nd g i).bl) j=M.sum (λi=>(g.rule i).bl) j:=by
   intro j;induction j with
   |zero=>intro _;rfl
   |succ j a=>intro d;rw[M.sum,M.sum,a (by omega),yd g (show j<g.nr by omega)]
  rw[b k e];have:=M.sum_le (λi=>(g.rule i).bl) e;omega
 have b:∀j,j<=g.nr->M.sum (λi=>(nd g i).bl) j=M.sum (λi=>(g.rule i).bl) j:=by
  intro j;induction j with
  |zero=>intro _;rfl
  |succ j a=>intro d;rw[M.sum,M.sum,a (by omega),yd g (show j<g.nr by omega)]
 have c:∀j,M.sum (λi=>(nd g i).bl) (g.nr+j)=M.sum (λi=>(g.rule i).bl) g.nr+M.sum (λi=>(g.lab i).bl) j:=by
  intro j;induction j with
  |zero=>rw[Nat.add_zero,b g.nr (Nat.le_refl _)];rfl
  |succ j a=>rw[<-Nat.add_assoc,M.sum,a,M.sum,xE];omega
 obtain⟨j,rfl⟩:∃j,k=g.nr+j:=⟨k-g.nr,by omega⟩;rw[c j];have:=M.sum_le (λi=>(g.lab i).bl) (show j<=g.nb by omega);omega
theorem urR{g}(a:M.Sound g)k(f:k<=g.nr+g.nb):PL g k<=2+3*k+2*M.sum (λi=>(nd g i).bl) k:=by
 induction k with
 |zero=>exact Nat.le_refl _
 |succ k c =>
  have h:=c (by omega);rw[uj5,M.sum];split
  ·rename_i j;have b:=(kU a (show k<g.nr+g.nb by omega)).elim (λq=>by omega) id;have d:=jU b;have e:=M.wsum_bd (nd g k).body (nd g k).bl;unfold trG;omega
  omega
theorem ubI{g}(a:M.Sound g)k(b:k<=g.nr+g.nb):PL g k<=5000:=by
 have c:=urR a k b;have d:=uq8 k b;have e:=a.ol;have f:=a.r2;have h:=a.l2;omega
def plI(w:World)(g:Gr)(p:Nat)(a b:Value)(wr:World):Prop:=∃k:Nat,k<=p/\b=.int .i64 (k:Int)/\a=.int .i64 ((PL g k:Nat):Int)/\Below w.heap.size w wr
theorem ucy Q b la c lc g(r:M.Sound g)w(S:GramX Q w b la g)p(W:p<g.nr+g.nb) :
  Calls Tryz.prog 90 #[.agg #[.slice b g.nr c,.slice la g.nb lc],.int .i64 (p:Int)] w λe w'=>e=.returned (.int .i64 (plc g p))/\Below w.heap.size w w':=by
 have i:=ua S;have m:=ua r;have n:=r.r2;have o:=r.l2;have y:=ua (ud1 g p);go_enter Tryz.func90,Tryz.ntmps90;go_wp2_with fail;refine(qu Q b la c lc g _ (i.later (uf w _)) n o p W).mono ?_;rintro e W1 ⟨⟨Y,c1,rfl,ae,aa⟩,s⟩;have A:=uc (a:=⟨w.heap.size,0,none⟩) (v:=.slice b g.nr c) (cN w.heap.size rfl rfl) s;have R:=uc (a:=⟨w.heap.size,1,none⟩) (v:=.slice la g.nb lc) (cN w.heap.size rfl rfl) s;have d:=ua (ud (uf w _) s);have ah:=ub A;by_cases B:(nd g p).bl=0
 ·have l:Hid (plc g p = -1):=by show _=_;rw[y.out,if_neg (by omega)]
  have P:(((nd g p).bl:Int)==0)=true:=by simp[B]
  go_wp2;go_ret;exact⟨uC l.symm,d⟩
 have l:Hid (plc g p=(PL g p:Int)):=by show _=_;rw[y.out,if_pos (by omega)]
 have P:(((nd g p).bl:Int)==0)=false:=by simp[B]
 have G:=ua A;have H:=ua R;go_wp2;go_loopw [5,6] (λN x wr=>plI W1 g p N x wr) (λ_ x _=>p-(intOf x).toNat)
 case atStart=>exact⟨0,Nat.zero_le _,rfl,rfl,Below.refl _ _⟩
 case round =>
  obtain⟨k,hk,rfl,rfl,u⟩:=hrel;have h:=ua u;have E:=uc G u;have y1:=uc H u;have ag:=ubI m k (by omega);have ai:=ub E;by_cases ad:k<p
  ·have z:=uj5 g k;have hlt':(k:Int)<(p:Int):=(by omega);go_wp2_with fail;refine(qu Q b la c lc g _ (i.later (ud d h)) n o k (by omega)).mono ?_;rintro e W2 ⟨⟨Z,c2,rfl,af,ab⟩,t⟩;have f:=ua (ud h t);have z0:=uc E t;have z1:=uc y1 t;by_cases C:0<(nd g k).bl
   ·have hk0':(0:Int)<((nd g k).bl:Int):=(by omega);have D:=(kU m (show k<g.nr+g.nb by omega)).elim (λq=>by omega) id;have J:=ua D;have aj:=M.wsum_bd (nd g k).body (nd g k).bl;have U:=uj6 m (show k<g.nr+g.nb by omega);have j:Hid (PL g (k+1)=PL g k+(yN (nd g k).body (nd g k).bl+3)):=by
     show _=_;rw[z,if_pos C,show(trG g k).len=yN (nd g k).body (nd g k).bl from jU D]
    go_wp2_with fail;refine(qu Q b la c lc g _ (i.later (ud d f)) n o k (by omega)).mono ?_;rintro e X ⟨⟨L,O,rfl,V,ac⟩,T⟩;have F:=ua (ud f T);have I:=ua V;go_wp2_with (go_at_call 92;refine(ud2 Q L (nd g k).bl O (nd g k).body _ I (ui2 J.1) U).mono ?_;rintro e W4 ⟨rfl,hw⟩;subst W4);go_roundw
    case rel=>exact⟨k+1,by omega,by go_num,by rw[j.out];first|go_num|(congr 1;omega),F⟩
    case measure=>simp[intOf];omega
   have hk0':¬(0:Int)<((nd g k).bl:Int):=(by omega);have j:Hid (PL g (k+1)=PL g k):=(by show _=_;rw[z,if_neg C]);go_wp2;go_roundw
   case rel=>exact⟨k+1,by omega,by go_num,by rw[j.out],f⟩
   case measure=>simp[intOf];omega
  obtain rfl:k=p:=by omega
  go_wp2;go_ret;exact⟨uC l.symm,ud d h⟩
section
open Go.RowKit
open M (OpD ue Gr um EX ins uG yN wt)
theorem uea{nr a:Nat}{o:OpD}(h:M.ElemOK nr a o):∃j:Nat,o.arg=j:=⟨o.arg.toNat,by have:=h.2.2.2.2.1;omega⟩
inductive TR where
 |lf (o:OpD)
 |un (o:OpD) (x:TR)
 |bn (o:OpD) (x y:TR)
def TR.n:TR->Nat
 |.lf _=>1
 |.un _ x=>x.n+1
 |.bn _ x y=>x.n+y.n+1
theorem TR.n0:∀T:TR,0<T.n
 |.lf _=>by simp[TR.n]
 |.un _ x=>by simp[TR.n]
 |.bn _ x y=>by simp[TR.n]
def TR.Ok(E:OpD->Prop):TR->Prop
 |.lf o=>M.ar o.kind=0/\E o
 |.un o x=>M.ar o.kind=1/\E o/\x.Ok E
 |.bn o x y=>M.ar o.kind=2/\E o/\x.Ok E/\y.Ok E
def TR.fold{α:Type}[Inhabited α](f:OpD->α->α->α):TR->α
 |.lf o=>f o default default
 |.un o x=>f o (x.fold f) default
 |.bn o x y=>f o (x.fold f) (y.fold f)
def TB(B:Nat->OpD):TR->Nat->Prop
 |.lf o,i=>B i=o
 |.un o x,i=>TB B x i/\B (i+x.n)=o
 |.bn o x y,i=>TB B x i/\TB B y (i+x.n)/\B (i+x.n+y.n)=o
def TR.get:TR->Nat->OpD
 |.lf o,_=>o
 |.un o x,i=>if i<x.n then x.get i else o
 |.bn o x y,i=>if i<x.n then x.get i else if i<x.n+y.n then y.get (i-x.n) else o
theorem ucb:∀(T:TR) (B:Nat->OpD) (i:Nat),(∀j,j<T.n->B (i+j)=T.get j)->TB B T i
 |.lf o,B,i,h=>h 0 (by simp[TR.n])
 |.un o x,B,i,h=>⟨ucb x B i (λj a=>(h j (by simp[TR.n];omega)).trans (if_pos a)),(h x.n (by simp[TR.n])).trans (if_neg (by omega))⟩
 |.bn o x y,B,i,h=>⟨ucb x B i (λj a=>(h j (by simp[TR.n];omega)).trans (if_pos a)),ucb y B _ (λj a=>by
   rw[Nat.add_assoc,h (x.n+j) (by simp[TR.n];omega),TR.get,if_neg (by omega),if_pos (by omega),Nat.add_sub_cancel_left]),by
   rw[Nat.add_assoc,h (x.n+y.n) (by simp[TR.n]),TR.get,if_neg (by omega),if_neg (by omega)]⟩
variable {B:Nat->OpD} {E:OpD->Prop}
theorem uf8{α:Type}[Inhabited α](f:OpD->α->α->α):∀(T:TR) (i:Nat),T.Ok E->TB B T i->M.stk f B (i+T.n)=(i,T.fold f)::M.stk f B i
 |.lf o,i,hk,h=>by subst h;simp[TR.n,M.stk,M.stp,TR.fold,hk.1]
 |.un o x,i,hk,⟨h1,h2⟩=>by
  show M.stp f (B (i+x.n)) _ (M.stk f B (i+x.n))=_;rw[uf8 f x i hk.2.2 h1,h2];simp[M.stp,TR.fold,hk.1]
 |.bn o x y,i,hk,⟨h1,h2,h3⟩=>by
  show M.stk f B (i+(x.n+y.n)+1)=_;rw[M.stk,<-Nat.add_assoc,h3,uf8 f y _ hk.2.2.2 h2,uf8 f x i hk.2.2.1 h1];simp[M.stp,TR.fold,hk.1]
theorem ucc:∀(T:TR) (i:Nat),T.Ok E->TB B T i->M.dep B (i+T.n)=M.dep B i+1/\∀j,i<j->j<=i+T.n->M.dep B i+1<=M.dep B j
 |.lf o,i,hk,h=>by
  have e:M.dep B (i+1)=M.dep B i+1:=by rw[M.dep,h,hk.1];omega
  refine⟨e,λj g f=>?_⟩;obtain rfl:j=i+1:=by simp[TR.n]at f;omega
  omega
 |.un o x,i,hk,⟨g,f⟩=>by
  obtain⟨a,b⟩:=ucc x i hk.2.2 g;have e:M.dep B (i+x.n+1)=M.dep B i+1:=by rw[M.dep,f,hk.1,a];omega
  refine⟨e,λj g f=>?_⟩;by_cases q:j<=i+x.n
  ·exact b j g q
  obtain rfl:j=i+x.n+1:=by simp[TR.n]at f;omega
  omega
 |.bn o x y,i,hk,⟨g,f,h3⟩=>by
  obtain⟨a,b⟩:=ucc x i hk.2.2.1 g;obtain⟨c,d⟩:=ucc y _ hk.2.2.2 f;have e:M.dep B (i+x.n+y.n+1)=M.dep B i+1:=by rw[M.dep,h3,hk.1,c,a];omega
  refine⟨by rw[<-e];simp only[TR.n,Nat.add_assoc],λj g f=>?_⟩;by_cases q:j<=i+x.n
  ·exact b j g q
  by_cases k:j<=i+x.n+y.n
  ·have:=d j (by omega) k;omega
  obtain rfl:j=i+x.n+y.n+1:=by simp[TR.n]at f;omega
  omega
theorem uf9(nr:Nat):∀(T:TR) (i:Nat),T.Ok E->TB B T i->yN B (i+T.n)=yN B i+(T.fold (M.nodeE nr)).len
 |.lf o,i,hk,h=>by
  have:=(M.node_len nr o default default).2.2 hk.1;rw[TR.n,yN,h,TR.fold,this]
 |.un o x,i,hk,⟨h1,h2⟩=>by
  have:=(M.node_len nr o (x.fold (M.nodeE nr)) default).2.1 hk.1;show yN B (i+x.n+1)=_;rw[yN,h2,uf9 nr x i hk.2.2 h1,TR.fold,this];omega
 |.bn o x y,i,hk,⟨h1,h2,h3⟩=>by
  have:=(M.node_len nr o (x.fold (M.nodeE nr)) (y.fold (M.nodeE nr))).1 hk.1;show yN B (i+(x.n+y.n)+1)=_;rw[yN,<-Nat.add_assoc,h3,uf9 nr y _ hk.2.2.2 h2,uf9 nr x i hk.2.2.1 h1,TR.fold,this];omega
theorem urV(d:Nat):∀lo,M.Fed B d->(∀i,i<d->E (B i))->M.stk (λ_ _ _=>()) B d=(lo,())::M.stk (λ_ _ _=>()) B lo->∃T:TR,lo+T.n=d/\T.Ok E/\TB B T lo:=by
 induction d using Nat.strongRecOn with
 |_ d l =>
  intro lo g f e;obtain⟨w,_,_⟩:=M.stk_cons _ B d g lo () _ e;obtain⟨q,rfl⟩:∃q,d=q+1:=⟨d-1,by omega⟩;have k:M.Fed B q:=g.less (by omega);have j:∀i,i<q->E (B i):=λi h=>f i (by omega)
  rcases M.ar_cases (B q).kind with h|h|h
  ·rw[M.stk]at e;simp[M.stp,h]at e;exact⟨.lf (B q),by simp[TR.n];omega,⟨h,f q (by omega)⟩,by show B lo=_;rw[e.1]⟩
  ·obtain⟨z,t,o,_⟩:=kH _ B q lo () g h e;obtain⟨x,a,b,c⟩:=l q (by omega) lo k j o;exact⟨.un (B q) x,by simp[TR.n];omega,⟨h,f q (by omega),b⟩,c,by rw[a]⟩
  obtain⟨s,y,z,t,o,u,v,_,_,_⟩:=xJ _ B q lo () g h e;obtain⟨y,a,b,c⟩:=l q (by omega) s k j u;obtain⟨x,m,p,r⟩:=l s (by omega) lo (k.less (by omega)) (λi h=>j i (by omega)) v;exact⟨.bn (B q) x y,by simp[TR.n];omega,⟨h,f q (by omega),p,b⟩,r,by rw[m];exact c,by rw[m,a]⟩
theorem uj9{nr d n:Nat}(h:M.BodyOK nr d n B):∃T:TR,T.n=n/\T.Ok (M.ElemOK nr d)/\TB B T 0/\∀{α:Type} [Inhabited α] (f:OpD->α->α->α),M.top (M.stk f B n)=T.fold f:=by
 obtain⟨T,a,b,c⟩:=urV n 0 h.2.1 h.1 (jV (λ_ _ _=>()) B n h.2);rw[Nat.zero_add]at a;exact⟨T,a,b,c,λf=>by have:=uf8 f T 0 b c;rw[Nat.zero_add]at this;rw[<-a,this];rfl⟩
def TA(Q:Nat->Prop)(w:World)(b:Nat):TR->Nat->Prop
 |.lf o,off=>OpC Q w b off o
 |.un o x,off=>TA Q w b x off/\OpC Q w b (off+x.n*3) o
 |.bn o x y,off=>TA Q w b x off/\TA Q w b y (off+x.n*3)/\OpC Q w b (off+(x.n+y.n)*3) o
variable {Q:Nat->Prop} {w W:World} {b:Nat}
theorem TA.later:∀{T:TR} {off:Nat},TA Q w b T off->Below w.heap.size w W->TA Q W b T off
 |.lf o,off,h,k=>OpC.later h k
 |.un o x,off,h,k=>⟨h.1.later k,h.2.later k⟩
 |.bn o x y,off,h,k=>⟨h.1.later k,h.2.1.later k,h.2.2.later k⟩
theorem uhK:∀{T:TR} {off i:Nat},TB B T i->(∀j,j<T.n->OpC Q w b (off+(i+j)*3) (B (i+j)))->TA Q w b T (off+i*3)
 |.lf o,off,i,h,k=>by have:=k 0 (by simp[TR.n]);rw[Nat.add_zero,h]at this;exact this
 |.un o x,off,i,h,k=>⟨uhK h.1 (λj a=>k j (by simp[TR.n];omega)),by
   have:=k x.n (by simp[TR.n]);rw[h.2]at this;rw[show off+i*3+x.n*3=off+(i+x.n)*3 by omega];exact this⟩
 |.bn o x y,off,i,h,k=>⟨uhK h.1 (λj a=>k j (by simp[TR.n];omega)),by
   have:=uhK (off:=off) h.2.1 (λj a=>by have:=k (x.n+j) (by simp[TR.n];omega);rw[<-Nat.add_assoc]at this;exact this);rw[show off+i*3+x.n*3=off+(i+x.n)*3 by omega];exact this,by
   have:=k (x.n+y.n) (by simp[TR.n]);rw[<-Nat.add_assoc,h.2.2]at this;rw[show off+i*3+(x.n+y.n)*3=off+(i+x.n+y.n)*3 by omega];exact this⟩
theorem ucd:∀{T:TR} {off:Nat},TA Q w b T off->∀j,j<T.n->OpC Q w b (off+j*3) (T.get j)
 |.lf o,off,h,j,hj=>by
   obtain rfl:j=0:=(by simp[TR.n]at hj;exact hj);exact h
 |.un o x,off,h,j,hj=>by
  rw[TR.get];split
  ·exact ucd h.1 j (by assumption)
  obtain rfl:j=x.n:=by simp[TR.n]at hj;omega
  exact h.2
 |.bn o x y,off,h,j,hj=>by
  rw[TR.get];split
  ·exact ucd h.1 j (by assumption)
  split
  ·have:=ucd h.2.1 (j-x.n) (by omega);rw[show off+x.n*3+(j-x.n)*3=off+j*3 by omega]at this;exact this
  obtain rfl:j=x.n+y.n:=by simp[TR.n]at hj;omega
  exact h.2.2
theorem TR.ok_get{E:OpD->Prop}:∀{T:TR},T.Ok E->∀j,E (T.get j)
 |.lf o,h,j=>h.2
 |.un o x,h,j=>by rw[TR.get];split;exact TR.ok_get h.2.2 j;exact h.2.1
 |.bn o x y,h,j=>by
  rw[TR.get];split;exact TR.ok_get h.2.2.1 j;split;exact TR.ok_get h.2.2.2 _;exact h.2.1
theorem ufg{o:OpD}{x y:TR}{off c m:Nat}(h:TA Q w b (.bn o x y) off)(i:(TR.bn o x y).Ok E)(l:x.n+y.n=m)(r:m<2000) :
  Calls Tryz.prog 83 #[.slice (some ⟨b,off,none⟩) (m+1) c,.int .i64 (m:Int)] w λk w'=>k=.returned (.int .i64 (x.n:Int))/\w=w':=by
 subst l;obtain⟨f,g,p⟩:=ucb (.bn o x y) (TR.bn o x y).get 0 (λj q=>by rw[Nat.zero_add]);obtain⟨a,_⟩:=ucc x 0 i.2.2.1 f;obtain⟨d,e⟩:=ucc y _ i.2.2.2 g;rw[Nat.zero_add]at a d e;have s:=y.n0;exact xd b off (x.n+y.n+1) c (TR.bn o x y).get w Q (ucd h) (by omega) (x.n+y.n) x.n (by omega) (by omega) d.symm (λj f g=>by have:=e j f g;omega)
theorem uaf{T:TR}{off c nr d l k:Nat}(h:TA Q w b T off)(a:T.Ok (M.ElemOK nr d))(m:Q b)(g:T.n<=2000)(f:l=T.n)(o:(T.fold (M.nodeE nr)).len=k) :
  Calls Tryz.prog 92 #[.slice (some ⟨b,off,none⟩) l c] w λe w'=>e=.returned (.int .i64 (k:Int))/\w=w':=by
 subst f o;have e:=uf9 (E:=M.ElemOK nr d) nr T 0 a (ucb T T.get 0 (λj _=>by rw[Nat.zero_add]));rw[Nat.zero_add,yN,Nat.zero_add]at e;rw[<-e];exact ud2 Q _ T.n c T.get w (.inr ⟨b,off,rfl,m,ucd h⟩) (λi _=>⟨(TR.ok_get a i).1,(TR.ok_get a i).2.1⟩) g
end
section
open Go.RowKit
open M (OpD ue Gr um EX ins uG yN wt)
section
variable {α:Type} [Inhabited α] (f:OpD->α->α->α) (B:Nat->OpD)
end
def uf3(l:List um)(w:World)(e:Ending)(w':World):Prop:=∃a n c L,e=.returned (.slice a n c)/\Hid (n=L.length)/\Hid (L.map IC.d=l)/\Hid (IRow w w' (.slice a n c) L)
theorem qt{l w w' a n c L}(h:IRow w w' (.slice a n c) L)(b:L.map IC.d=l):uf3 l w (.returned (.slice a n c)) w':=by
 obtain⟨f,g,e⟩:=h.shape;cases e;exact⟨a,_,c,L,rfl,rfl,b,h⟩
theorem uae{L:List IC}{l:List um}{n:Nat}(a:n=L.length)(b:L.map IC.d=l):L.length=l.length/\n=l.length:=by
 rw[<-b,List.length_map];exact⟨rfl,a⟩
theorem uhy{n S}(h:M.Canon n S):n<=256:=by
 obtain⟨l,f⟩:=h;obtain⟨k,rfl⟩:∃k,n=2*k:=⟨n / 2,by omega⟩;have d:=(M.pairs_canon S k).2 f;have i:∀j,j<k->2*(j:Int)<=S (2*j):=by
  intro j;induction j with
  |zero=>intro e;have:=(d 0 e).1;simp[M.least]at this;simpa using this
  |succ j g =>
   intro e;have a:=g (by omega);have b:=(d j (by omega)).2.1;have c:=(d (j+1) e).1;unfold M.least at c;rw[if_neg (by omega),show 2*(j+1)-1=2*j+1 by omega]at c
   push_cast
   omega
 by_cases m:k=0
 ·omega
 have a:=i (k-1) (by omega);have b:=d (k-1) (by omega);have:=b.2.1;have:=b.2.2;omega
theorem upm args w:(callFunc 91 args).run Tryz.prog w=.ok (.enter 91 args) w:=by
 simp[callFunc,Tryz.func91,Tryz.f91,go_sem]
theorem upn args w:(callFunc 90 args).run Tryz.prog w=.ok (.enter 90 args) w:=by
 simp[callFunc,Tryz.func90,Tryz.f90,go_sem]
theorem upo args w:(callFunc 92 args).run Tryz.prog w=.ok (.enter 92 args) w:=by
 simp[callFunc,Tryz.func92,Tryz.f92,go_sem]
theorem upp args w:(callFunc 55 args).run Tryz.prog w=.ok (.enter 55 args) w:=by
 simp[callFunc,Tryz.func55,Tryz.f55,go_sem]
theorem ulh c la f nr d b lc g o w(n:M.Names o){k a}(m:o.kind=k)(l:o.arg=a)(h:0<=o.arg)(i:o.arg<=1048576)(j:nr<=1048576) :
  Calls Tryz.prog 91 #[.agg #[.slice c nr d,.slice la b lc],.agg #[.int .i64 k,.slice f o.sl g,.int .i64 a]] w λe w'=>e=.returned (.int .i64 (M.tg nr o:Nat))/\Below w.heap.size w w':=by
 subst m l;exact uf4 c la f nr d b lc g o w n h i j
end
end Go.Proofs.YtpghlcdkfldlpaaGreat
