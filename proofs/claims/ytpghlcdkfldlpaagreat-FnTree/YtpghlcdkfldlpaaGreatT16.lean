import Derived.Test.YtpghlcdkfldlpaaGreatT15
import Derived.Test.YtpghlcdkfldlpaaGreatT12
import Derived.OwnWalkIn
import Derived.LoopNIn
import Derived.LoopIn
set_option linter.unusedVariables false
set_option linter.unusedSimpArgs false
set_option maxHeartbeats 40000000
set_option maxRecDepth 100000
namespace Go.Proofs.YtpghlcdkfldlpaaGreat
section
open M (OpD ue Gr TX b1)
def jS(g:Gr)(i:Nat):ByteArray:=str (g.rule i).nl (g.rule i).name
def jl(g:Gr)(i:Nat):ByteArray:=str (g.lab i).nl (g.lab i).name
def uL(g:Gr):OpD->TX->TX->TX:=M.nodeT (jS g) (jl g)
def jT(g:Gr)(n:Nat)(B:Nat->OpD):TX:=M.top (M.stk (uL g) B n)
theorem kT{g}(a:M.Sound g){i}(b:i<g.nr):0<(jS g i).size/\(jS g i).size<=32:=by
 unfold jS;rw[ud8];exact⟨(a.rn i b).2.2.1,(a.rn i b).1⟩
theorem xF{g}(a:M.Sound g){i}(b:i<g.nb):0<(jl g i).size/\(jl g i).size<=32:=by
 unfold jl;rw[ud8];exact⟨(a.ln i b).2.2.1,(a.ln i b).1⟩
theorem ub1{g}(f:M.Sound g){o}(j:M.ElemOK g.nr g.nb o){x y}(b:x.Fine)(h:y.Fine):(uL g o x y).Fine:=by
 obtain⟨k,l,i,m,n,a⟩:=j;unfold uL M.nodeT;by_cases c:o.kind=1
 ·rw[if_pos c];exact i c
 rw[if_neg c];by_cases d:o.kind=2
 ·rw[if_pos d];unfold M.most at a;rw[if_neg (by omega),if_pos d]at a;exact kT f (by omega)
 rw[if_neg d];by_cases e:o.kind=3
 ·rw[if_pos e];unfold M.most at a;rw[if_pos e]at a;exact xF f (by omega)
 rw[if_neg e];split
 ·exact⟨b,h⟩
 split
 ·exact⟨b,h⟩
 split
 ·exact b
 split
 ·exact b
 trivial
theorem udQ{g}(b:M.Sound g)B n(e:∀i,i<n->M.ElemOK g.nr g.nb (B i)):∀p,p∈M.stk (uL g) B n->p.2.Fine:=by
 induction n with
 |zero=>intro p a;simp[M.stk]at a
 |succ n f =>
  have ih':=f (λi h=>e i (by omega));have d:=e n (by omega);have c:=trivial;rw[M.stk];generalize M.stk (uL g) B n=l at *;intro p a;unfold M.stp at a;split at a
  ·match l,ih',a with
   |[],_,a=>simp at a
   |[_],_,a=>simp at a
   |(s2,y)::(s1,x)::r,ih',a =>
    rcases List.mem_cons.1 a with rfl|a
    ·exact ub1 b d (ih' (s1,x) (by simp)) (ih' (s2,y) (by simp))
    exact ih' p (by simp[a])
  split at a
  ·match l,ih',a with
   |[],_,a=>simp at a
   |(s1,x)::r,ih',a =>
    rcases List.mem_cons.1 a with rfl|a
    ·exact ub1 b d (ih' (s1,x) (by simp)) c
    exact ih' p (by simp[a])
  rcases List.mem_cons.1 a with rfl|a
  ·exact ub1 b d c c
  exact ih' p a
def szs:List (Nat×TX)->Nat
 |[]=>0
 |(_,t)::r=>t.sz+szs r
theorem ucW g o x y:(M.ar o.kind=2->(uL g o x y).sz=x.sz+y.sz+1)/\(M.ar o.kind=1->(uL g o x y).sz=x.sz+1)/\(M.ar o.kind=0->(uL g o x y).sz=1):=by
 unfold uL M.nodeT M.ar;by_cases a:o.kind=1
 ·simp[a,M.TX.sz]
 by_cases b:o.kind=2
 ·simp[b,M.TX.sz]
 by_cases c:o.kind=3
 ·simp[c,M.TX.sz]
 by_cases d:o.kind=4
 ·simp[d,M.TX.sz]
 by_cases e:o.kind=5
 ·simp[e,M.TX.sz]
 by_cases f:o.kind=6
 ·simp[f,M.TX.sz]
 by_cases h:o.kind=7
 ·simp[h,M.TX.sz]
 simp[a,b,c,d,e,f,h,M.TX.sz]
theorem uni g B n(h:M.Fed B n):szs (M.stk (uL g) B n)=n:=by
 induction n with
 |zero=>rfl
 |succ n i =>
  have e:=i (h.less (by omega));have d:=M.stk_len (uL g) B n (h.less (by omega));have f:=h n (by omega);rw[M.stk];generalize M.stk (uL g) B n=l at *;rcases M.ar_cases (B n).kind with c|c|c
  ·have:=(ucW g (B n) default default).2.2 c;simp[M.stp,c,szs,this];omega
  ·rw[c]at f;match l,e,d with
   |[],e,d=>simp at d;omega
   |(a,x)::r,e,d =>
    have:=(ucW g (B n) x default).2.1 c;simp[M.stp,c,szs,this]at *;omega
  rw[c]at f;match l,e,d with
  |[],e,d=>simp at d;omega
  |[(a,x)],e,d=>simp at d;omega
  |(a,y)::(b,x)::r,e,d =>
   have:=(ucW g (B n) x y).1 c;simp[M.stp,c,szs,this]at *;omega
theorem uqV{l}:(M.top l).sz<=szs l+1:=by
 match l with
 |[]=>simp[M.top,szs];exact Nat.le_refl 1
 |(s,t)::r=>simp[M.top,szs];omega
theorem uqW{l}{p:Nat×TX}(h:p∈l):p.2.sz<=szs l:=by
 induction l with
 |nil=>cases h
 |cons q r a =>
  obtain⟨s,t⟩:=q;rcases List.mem_cons.1 h with rfl|h
  ·simp[szs]
  have:=a h;simp[szs];omega
theorem uk8{g}(b:M.Sound g){n B}(a:M.BodyOK g.nr g.nb n B):(jT g n B).Fine:=by
 unfold jT;have:=udQ b B n a.1;generalize M.stk (uL g) B n=l at *;match l,this with
 |[],_=>trivial
 |(s,t)::r,h=>exact h (s,t) (by simp)
theorem uav{g}(d:M.Sound g){n B}(b:M.BodyOK g.nr g.nb n B):(jT g n B).text.size<=1210*(n+1):=by
 have e:=M.text_size _ (uk8 d b);have c:=uni g B n b.2.1;have a:=uqV (l:=M.stk (uL g) B n);rw[c]at a;have:(jT g n B).sz<=n+1:=a;omega
def ufb(nm:ByteArray)(t:TX):ByteArray:=nm++⟨#[32,61,32]⟩++t.text++⟨#[32,59,10]⟩
def upI(g:Gr)(k:Nat):TX:=jT g (g.rule k).bl (g.rule k).body
def ujW(g:Gr)(k:Nat):TX:=jT g (g.lab k).bl (g.lab k).body
def ju(g:Gr):Nat->ByteArray
 |0=>ByteArray.empty
 |k+1=>ju g k++ufb (jS g k) (upI g k)
def ke(g:Gr):Nat->ByteArray
 |0=>ju g g.nr
 |k+1=>if (g.lab k).has then ke g k++(b1 94++ufb (jl g k) (ujW g k)) else ke g k
def upJ(g:Gr):ByteArray:=ke g g.nb
theorem ufc nm t:(ufb nm t).size=nm.size+t.text.size+6:=by
 unfold ufb;rw[ByteArray.size_append,ByteArray.size_append,ByteArray.size_append];have a:(ByteArray.mk #[32,61,32]).size=3:=rfl;have b:(ByteArray.mk #[32,59,10]).size=3:=rfl;omega
theorem ucs{g}(a:M.Sound g)k(f:k<=g.nr):(ju g k).size<=1300*k+1210*M.sum (λi=>(g.rule i).bl) k:=by
 induction k with
 |zero=>simp[ju,M.sum]
 |succ k b =>
  have c:=b (by omega);have d:=uav a (a.rb k (by omega));have e:=kT a (i:=k) (by omega);rw[ju,ByteArray.size_append,ufc,M.sum];unfold upI;omega
theorem uiO{g}(a:M.Sound g)k(h:k<=g.nb):(ke g k).size<=1300*g.nr+1210*M.sum (λi=>(g.rule i).bl) g.nr+(1300*k+1210*M.sum (λi=>(g.lab i).bl) k):=by
 induction k with
 |zero=>have:=ucs a g.nr (Nat.le_refl _);simp[ke,M.sum];exact this
 |succ k c =>
  have d:=c (by omega);rw[ke,M.sum];split
  ·rename_i b;have e:=uav a (a.lb k (by omega) b);have f:=xF a (i:=k) (by omega);rw[ByteArray.size_append,ByteArray.size_append,ufc,M.b1_size];unfold ujW;omega
  omega
theorem uk9{g}(a:M.Sound g)k(b:k<=g.nr):(ju g k).size<=2700000:=by
 have d:=ucs a k b;have e:=M.sum_le (λi=>(g.rule i).bl) b;have c:=a.ol;have f:=a.r2;unfold M.ops at c;omega
theorem uhr{g}(a:M.Sound g)k(b:k<=g.nb):(ke g k).size<=2700000:=by
 have d:=uiO a k b;have e:=M.sum_le (λi=>(g.lab i).bl) b;have c:=a.ol;have f:=a.r2;have h:=a.l2;unfold M.ops at c;omega
theorem ua6{g}(b:M.Sound g){k}(c:k<g.nr):(g.rule k).bl<=2000:=by
 have a:=b.ol;unfold M.ops at a;have:=M.le_sum (λi=>(g.rule i).bl) c;omega
theorem ub2{g}(b:M.Sound g){k}(c:k<g.nb):(g.lab k).bl<=2000:=by
 have a:=b.ol;unfold M.ops at a;have:=M.le_sum (λi=>(g.lab i).bl) c;omega
section
variable {α:Type} [Inhabited α] (f:OpD->α->α->α) (B:Nat->OpD)
end
theorem udR g B q s y r(c:M.Fed B q)(e:M.stk (uL g) B q=(s,y)::r):y.bind=M.bindK (B (q-1)).kind:=by
 match q,c,e with
 |0,_,e=>simp[M.stk]at e
 |q+1,c,e =>
  have a:=M.stk_len (uL g) B q (c.less (by omega));have d:=c q (by omega);rw[M.stk]at e;show y.bind=M.bindK (B q).kind;rcases M.ar_cases (B q).kind with b|b|b
  ·simp[M.stp,b]at e;rw[<-e.1.2];exact M.nodeT_bind _ _ _ _ _
  ·match hs:M.stk (uL g) B q with
   |[]=>rw[hs]at a;simp at a;omega
   |(s1,z)::r1 =>
    rw[hs]at e;simp[M.stp,b]at e;rw[<-e.1.2];exact M.nodeT_bind _ _ _ _ _
  match hs:M.stk (uL g) B q with
  |[]=>rw[hs]at a;simp at a;omega
  |[(s1,z)]=>rw[hs]at a;simp at a;omega
  |(s2,z2)::(s1,z)::r1 =>
   rw[hs]at e;simp[M.stp,b]at e;rw[<-e.1.2];exact M.nodeT_bind _ _ _ _ _
end
open Go.RowKit
open M (OpD ue Gr)
theorem uf4 g la i nr h f lc j o w(d:M.Names o)(k:0<=o.arg)(l:o.arg<=1048576)(m:nr<=1048576) :
  Calls Tryz.prog 91 #[.agg #[.slice g nr h,.slice la f lc],.agg #[.int .i64 o.kind,.slice i o.sl j,.int .i64 o.arg]] w λe w'=>e=.returned (.int .i64 (M.tg nr o:Nat))/\Below w.heap.size w w':=by
 by_cases b:o.kind=2
 ·have c:(o.kind==2)=true:=by simp[b]
  have a:Hid (¬o.kind=3):=by show ¬_;omega
  go_enter Tryz.func91,Tryz.ntmps91;go_wp2;go_ret;exact⟨uC (by unfold M.tg;rw[if_neg a.out];omega),vb w _ _⟩
 have c:(o.kind==2)=false:=by simp[b]
 have a:Hid (o.kind=3):=by rcases d with q|q;exact absurd q b;exact q
 go_enter Tryz.func91,Tryz.ntmps91;go_wp2;go_ret;exact⟨uC (by unfold M.tg;rw[if_pos a.out];omega),vb w _ _⟩
theorem uhA T i j(h:i<=j):M.dep T i<=M.dep T j+(j-i:Nat):=by
 induction j with
 |zero =>
   have:i=0:=(by omega);subst this;simp
 |succ j a =>
  by_cases e:i=j+1
  ·subst e;simp
  have:=a (by omega);have b:=M.ar_bd (T j).kind;rw[M.dep];omega
def unM(w:World)(T:Nat->OpD)(s e:Nat)(d i:Value)(wr:World):Prop :=
 ∃k:Nat,s<=k/\k<=e/\d=.int .i64 (1-M.dep T e+M.dep T k)/\i=.int .i64 (k:Int)/\wr=w
theorem xd b o n c T w Q(u:∀i,i<n->OpC Q w b (o+i*3) (T i))(F:n<=1048576)e s(D:e<=n)(G:s<e)(r:M.dep T s+1=M.dep T e)(t:∀j,s<j->j<=e->M.dep T e<=M.dep T j) :
  Calls Tryz.prog 83 #[.slice (some ⟨b,o,none⟩) n c,.int .i64 (e:Int)] w λp w'=>p=.returned (.int .i64 (s:Int))/\w=w':=by
 have l:=ua u;have g:=ua r;have h:=ua t;go_enter Tryz.func83,Tryz.ntmps83;go_wp2;go_loopw [5,6] (λd i wr=>unM w T s e d i wr) (λd i _=>(intOf i).toNat)
 case atStart=>exact⟨e,by omega,Nat.le_refl _,yL (by omega),rfl,rfl⟩
 case round =>
  obtain⟨k,E,a,rfl,rfl,rfl⟩:=hrel;by_cases v:s<k
  ·have B:=h k v a;have C:=uhA T k e a;obtain⟨q,rfl⟩:∃q,k=q+1:=⟨k-1,by omega⟩;obtain⟨x,⟨J,L,y,H⟩,z⟩:=l q (by omega);have A:=M.ar_bd (T q).kind;have m:Hid (M.dep T (q+1)=M.dep T q+(1-M.ar (T q).kind)):=rfl;have N:(0:Int)<((q+1:Nat):Int):=(by omega);have f:(0:Int)<1-M.dep T e+M.dep T (q+1):=(by omega);have O:((q+1:Nat):Int)-1=(q:Int):=(by omega);have P:(q:Int)<n:=(by omega);go_wp2_with (go_at_call 122;refine(ucC _ _).mono ?_;rintro e W ⟨rfl,I⟩;subst W);go_roundw
   case rel=>exact⟨q,by omega,by omega,yL (by have:=m.out;omega),by first|rfl|go_num,by trivial⟩
   case measure=>simp[intOf]<;>omega
  obtain rfl:k=s:=by omega
  have f:1-M.dep T e+M.dep T k=0:=by have:=g;omega
  rw[f];go_wp2;all_goals go_ret
  all_goals exact⟨rfl,rfl⟩
theorem vy B lo j:M.dep (λi=>B (lo+i)) j=M.dep B (lo+j)-M.dep B lo:=by
 induction j with
 |zero=>simp[M.dep]
 |succ j a=>rw[M.dep,a,show lo+(j+1)=lo+j+1 by omega,M.dep];omega
theorem ux(m:Nat)(h:m<=1048576):IntKind.i64.wrap (m:Int)=(m:Int):=by
 simp[IntKind.wrap,IntKind.bits,IntKind.signed];omega
open Go.RowKit Go.Shelf
attribute [local go_sem] Oper.semAt_some
def nd(g:Gr)(p:Nat):ue:=if p<g.nr then g.rule p else g.lab (p-g.nr)
structure Flat(w:World)(ra la:Option Addr)(g:Gr)(rb ro lb lo:Nat)(na ba:Nat->Option Addr)(nc bc:Nat->Nat):Prop where
 ra:0<g.nr->ra=some ⟨rb,ro,none⟩
 la:0<g.nb->la=some ⟨lb,lo,none⟩
 r0:∀i,i<g.nr->w.cell? ⟨rb,ro+i*2,none⟩=some (.slice (na i) (nd g i).nl (nc i))
 r1:∀i,i<g.nr->w.cell? ⟨rb,ro+i*2+1,none⟩=some (.slice (ba i) (nd g i).bl (bc i))
 l0:∀i,i<g.nb->w.cell? ⟨lb,lo+i*3,none⟩=some (.slice (na (g.nr+i)) (nd g (g.nr+i)).nl (nc (g.nr+i)))
 l1:∀i,i<g.nb->w.cell? ⟨lb,lo+i*3+1,none⟩=some (.bool (g.lab i).has)
 l2:∀i,i<g.nb->w.cell? ⟨lb,lo+i*3+2,none⟩=some (.slice (ba (g.nr+i)) (nd g (g.nr+i)).bl (bc (g.nr+i)))
theorem yd g{i}(h:i<g.nr):nd g i=g.rule i:=by simp[nd,h]
theorem xE g i:nd g (g.nr+i)=g.lab i:=by unfold nd;rw[if_neg (by omega),show g.nr+i-g.nr=i by omega]
def ujV(g:Gr)(a rb lb:Nat)(k:Nat):Prop:=k=a\/(k=rb/\0<g.nr)\/(k=lb/\0<g.nb)
def uhp(g:Gr)(a ba:Nat->Option Addr)(b bc:Nat->Nat)(p:Nat):Array Value:=#[.slice (a p) (nd g p).nl (b p),.slice (ba p) (nd g p).bl (bc p)]
def unh(w W:World)(g:Gr)(a rb lb:Nat)(J:Nat->World->Prop)(from_ n:Nat)(i:Value)(wr:World):Prop :=
 ∃p:Nat,p<=n/\i=.int .i64 (p:Int)/\J (from_+p) wr/\W.heap.size<=wr.heap.size/\∀k,ujV g a rb lb k->wr.heap[k]?=w.heap[k]?
theorem ucr c P la rc lc g rb G lb lo(v ba:Nat->Option Addr)x bc w(h1:g.nr<=1048576)(h2:g.nb<=1048576)(E:w.cell? ⟨c,0,none⟩=some (.slice P g.nr rc))(X:w.cell? ⟨c,1,none⟩=some (.slice la g.nb lc))(U:Flat w P la g rb G lb lo v ba x bc) :
  um8 Tryz.prog 127 #[.pointer (some ⟨c,0,none⟩)] 0 (λp=>p<g.nr+g.nb) (λp=>p+1) (uhp g v ba x bc) (ujV g c rb lb) w:=by
 intro l C J Jx W ad H I aa L ab N T;have ac:Fence.wide.depth=none:=rfl;have d:=ua U;refine callsIn_of_wp Tryz.func127 rfl trivial ?_ rfl;simp only[Tryz.ntmps127,List.size_toArray,List.length_cons,List.length_nil,Nat.reduceAdd,Nat.reduceSub,Array.replicate_succ,Array.replicate_zero,List.push_toArray,List.append_toArray,List.nil_append,List.cons_append];have ae:=(World.cell?_of_block (a:=⟨c,0,none⟩) (H c (.inl rfl))).trans E
 gi_wp2
 gi_loopw [10] (λi wr=>unh w W g c rb lb J 0 g.nr i wr) (λi _=>g.nr-(intOf i).toNat)
 case atStart=>exact⟨0,Nat.zero_le _,rfl,T,Nat.le_refl _,H⟩
 case round =>
  obtain⟨p,hp,rfl,j,t,b⟩:=hrel;rw[Nat.zero_add]at j;by_cases n:p<g.nr
  ·obtain rfl:=d.ra (by omega);have z:=(World.cell?_of_block (a:=⟨rb,G+p*2,none⟩) (b rb (.inr (.inl ⟨rfl,by omega⟩)))).trans (d.r0 p n);have R:=(World.cell?_of_block (a:=⟨rb,G+p*2+1,none⟩) (b rb (.inr (.inl ⟨rfl,by omega⟩)))).trans (d.r1 p n);have Y:=ub z;have o:=L p wr (wr.alloc (Obj.cells #[Value.slice (v p) (nd g p).nl (x p),Value.slice (ba p) (nd g p).bl (bc p)] 76)) j ((Below.refl _ wr).alloc (by omega) _);obtain⟨S,tmps,Q,body,u,r⟩:=N p _ o (by omega);unfold uhp at u;clear o
   gi_wp2
   refine r.mono ?_;clear r u;rintro e y (⟨rfl,B,s⟩|⟨rfl,D,_⟩)
   ·have A:∀k,ujV g c rb lb k->y.heap[k]?=w.heap[k]?:=λk f=>by
     have F:k<wr.heap.size:=by
      have e:=b k f;have:w.heap[k]?.isSome:=by
       rcases f with rfl|⟨rfl,m⟩|⟨rfl,m⟩
       ·have:=ub E;simp[this]
       ·have:=ub (d.r0 0 m);simp[this]
       have:=ub (d.l0 0 m);simp[this]
      rw[<-e]at this;rcases Nat.lt_or_ge k wr.heap.size with h|h
      ·exact h
      simp[h]at this
     refine(s.block k (by simp;omega) (I k f)).trans ((Below.heap_alloc _ _ _ F).trans (b k f))
    gi_wp2
    go_roundw
    case rel=>exact⟨p+1,by omega,by go_num,by rw[Nat.zero_add];exact B,Nat.le_trans (Nat.le_trans t (by simp)) s.size,A⟩
    case measure=>simp[intOf];omega
   gi_wp2
   refine bodyPost_ret (results_none rfl _ _ _) rfl ?_;exact⟨⟨_,rfl⟩,.inr ⟨p,by omega,D⟩⟩
  have O:p=g.nr:=by omega
  rw[O]at j;clear O;have Z:=(World.cell?_of_block (a:=⟨c,1,none⟩) (b c (.inl rfl))).trans X;obtain⟨V,eV⟩:=nm wr;subst wr
  gi_wp2
  gi_loopw [25] (λi wr=>unh w W g c rb lb J g.nr g.nb i wr) (λi _=>g.nb-(intOf i).toNat)
  case atStart=>exact⟨0,Nat.zero_le _,rfl,j,t,b⟩
  case round =>
   clear j t b Z;obtain⟨q,hq,rfl,j,t,b⟩:=hrel;by_cases n:q<g.nb
   ·obtain rfl:=d.la (by omega);have z:=(World.cell?_of_block (a:=⟨lb,lo+q*3,none⟩) (b lb (.inr (.inr ⟨rfl,by omega⟩)))).trans (d.l0 q n);have R:=(World.cell?_of_block (a:=⟨lb,lo+q*3+1,none⟩) (b lb (.inr (.inr ⟨rfl,by omega⟩)))).trans (d.l1 q n);have c2:=(World.cell?_of_block (a:=⟨lb,lo+q*3+2,none⟩) (b lb (.inr (.inr ⟨rfl,by omega⟩)))).trans (d.l2 q n);have Y:=ub z;have o:=L (g.nr+q) wr (wr.alloc (Obj.cells #[Value.slice (v (g.nr+q)) (nd g (g.nr+q)).nl (x (g.nr+q)),Value.bool (g.lab q).has,Value.slice (ba (g.nr+q)) (nd g (g.nr+q)).bl (bc (g.nr+q))] 73)) j ((Below.refl _ wr).alloc (by omega) _);obtain⟨S,tmps,Q,body,u,r⟩:=N (g.nr+q) _ o (by omega);unfold uhp at u;clear o
    gi_wp2
    refine r.mono ?_;clear r u;rintro e y (⟨rfl,B,s⟩|⟨rfl,D,_⟩)
    ·have A:∀k,ujV g c rb lb k->y.heap[k]?=w.heap[k]?:=λk f=>by
      have F:k<wr.heap.size:=by
       have e:=b k f;have:w.heap[k]?.isSome:=by
        rcases f with rfl|⟨rfl,m⟩|⟨rfl,m⟩
        ·have:=ub E;simp[this]
        ·have:=ub (d.r0 0 m);simp[this]
        have:=ub (d.l0 0 m);simp[this]
       rw[<-e]at this;rcases Nat.lt_or_ge k wr.heap.size with h|h
       ·exact h
       simp[h]at this
      refine(s.block k (by simp;omega) (I k f)).trans ((Below.heap_alloc _ _ _ F).trans (b k f))
     gi_wp2
     go_roundw
     case rel=>exact⟨q+1,by omega,by go_num,B,Nat.le_trans (Nat.le_trans t (by simp)) s.size,A⟩
     case measure=>simp[intOf];omega
    gi_wp2
    refine bodyPost_ret (results_none rfl _ _ _) rfl ?_;exact⟨⟨_,rfl⟩,.inr ⟨g.nr+q,by omega,D⟩⟩
   gi_wp2
   go_end0;exact⟨⟨_,rfl⟩,.inl ⟨g.nr+q,by omega,j⟩⟩
theorem uhq b la nr c a lc w :
  CallsIn Fence.wide 0 Tryz.prog 102 #[.agg #[.slice b nr c,.slice la a lc]] w λe w'=>e=.returned (.func (.func 127) #[] #[.pointer (some ⟨w.heap.size,0,none⟩)])/\w'=w.alloc (.cells #[.slice b nr c,.slice la a lc] 28):=by
 refine callsIn_of_wp Tryz.func102 rfl trivial ?_ rfl;simp only[Tryz.ntmps102,List.size_toArray,List.length_cons,List.length_nil,Nat.reduceAdd,Nat.reduceSub,Array.replicate_succ,Array.replicate_zero,List.push_toArray,List.append_toArray,List.nil_append,List.cons_append]
 gi_wp2
 go_ret;exact⟨rfl,rfl⟩
attribute [local go_sem] Oper.semAt_some
def xW(g:Gr)(p:Nat):Nat:=M.sum (λi=>(nd g i).bl) p
theorem uau g p:xW g (p+1)=xW g p+(nd g p).bl:=rfl
def uiN(g:Gr):Prop:=100<g.nr\/100<g.nb\/∃p,p<g.nr+g.nb/\(2000<xW g (p+1)\/32<(nd g p).nl)
structure OvOwn(w:World)(y:Nat)(s:Int)(x:World):Prop where
 res:∃v,x.cell? ⟨y+1,0,none⟩=some v
 resf:x.frozen? ⟨y+1,0,none⟩=false
 sum:x.cell? ⟨y+1+1,0,none⟩=some (.int .i64 s)
 sumf:x.frozen? ⟨y+1+1,0,none⟩=false
 bel:Below y w x
 size:y+4<=x.heap.size
theorem OvOwn.below{w y s x z}(h:OvOwn w y s x)(a:Below (y+4) x z):OvOwn w y s z :=
 ⟨h.res.imp λ_ b=>(a.cell (p:=⟨y+1,0,none⟩) (by show y+1<y+4;omega)).trans b,
  (a.frozen (p:=⟨y+1,0,none⟩) (by show y+1<y+4;omega)).trans h.resf,
  (a.cell (p:=⟨y+1+1,0,none⟩) (by show y+1+1<y+4;omega)).trans h.sum,
  (a.frozen (p:=⟨y+1+1,0,none⟩) (by show y+1+1<y+4;omega)).trans h.sumf,h.bel.trans (a.mono (by omega)),Nat.le_trans h.size a.size⟩
theorem OvOwn.store{w y s s' x}(h:OvOwn w y s x)(b:y<=w.heap.size):OvOwn w y s' (x.setCell ⟨y+1+1,0,none⟩ (.int .i64 s')) :=
 ⟨h.res.imp λ_ a=>by rw[World.cell?_of_block (Below.heap_setCell x ⟨y+1+1,0,none⟩ _ (y+1) (by simp))];exact a,
  (World.frozen?_setCell _ _ _ _).trans h.resf,World.cell?_setCell_same' _ _ _ (by rw[h.sum];rfl),(World.frozen?_setCell _ _ _ _).trans h.sumf,
  h.bel.setCell (p:=⟨y+1+1,0,none⟩) (by show y<=y+1+1;omega) _,by simpa[World.setCell] using h.size⟩
theorem OvOwn.answer{w y s x}(h:OvOwn w y s x):Below y w (x.setCell ⟨y+1,0,none⟩ (.bool true))/\y+4<=(x.setCell ⟨y+1,0,none⟩ (.bool true)).heap.size/\(x.setCell ⟨y+1,0,none⟩ (.bool true)).cell? ⟨y+1,0,none⟩=some (.bool true) :=
 ⟨h.bel.setCell (p:=⟨y+1,0,none⟩) (by show y<=y+1;omega) _,by simpa[World.setCell] using h.size,by obtain⟨v,a⟩:=h.res;exact World.cell?_setCell_same' _ _ _ (by rw[a];rfl)⟩
def urN(w:World)(g:Gr)(p:Nat)(x:World):Prop:=OvOwn w w.heap.size (xW g p:Nat) x/\p<=g.nr+g.nb/\xW g p<=2000/\∀q,q<p->¬(2000<xW g (q+1)\/32<(nd g q).nl)
def urO(w:World)(g:Gr)(a:Code)(p:Nat)(x:World):Prop :=
 a=.ret/\Below w.heap.size w x/\w.heap.size+4<=x.heap.size/\x.cell? ⟨w.heap.size+1,0,none⟩=some (.bool true)/\p<g.nr+g.nb/\(2000<xW g (p+1)\/32<(nd g p).nl)
theorem kF(W:World)(a b:Value)(t:TypeId):(W.alloc (.cells #[a,b] t)).cell? ⟨W.heap.size,0,none⟩=some a/\(W.alloc (.cells #[a,b] t)).cell? ⟨W.heap.size,1,none⟩=some b:=by
 have h:=World.alloc_heap_new W (.cells #[a,b] t);refine⟨?_,?_⟩<;>simp only[World.cell?,h]<;>rfl
theorem ueq a la c lc g rb ro lb lo(Y ba:Nat->Option Addr)Z bc w(i:vP g)(G:∀W,Below w.heap.size w W->Flat W a la g rb ro lb lo Y ba Z bc) :
  CallsIn Fence.wide 0 Tryz.prog 72 #[.agg #[.slice a g.nr c,.slice la g.nb lc]] w (xS (uiN g) w):=by
 have ak:Fence.wide.depth=none:=rfl;have h1:=i.nr;have h2:=i.nb;have HF:=ua G;have ag:∀p,p<g.nr+g.nb->(nd g p).bl<=1048576/\(nd g p).nl<=1048576:=λp v=>by
  unfold nd;split
  ·exact⟨(i.rule p (by omega)).body.1,(i.rule p (by omega)).name⟩
  exact⟨(i.lab (p-g.nr) (by omega)).body.1,(i.lab (p-g.nr) (by omega)).name⟩
 have HS:=ua ag;have T:0<g.nr->rb<w.heap.size:=λh=>ub ((G w (Below.refl _ _)).r0 0 h)
 have S:0<g.nb->lb<w.heap.size:=λh=>ub ((G w (Below.refl _ _)).l0 0 h)
 by_cases o1:100<g.nr
 ·have o1':(100:Int)<(g.nr:Int):=by omega
  refine callsIn_of_wp_marks Tryz.func72 rfl trivial ?_ rfl;simp only[Tryz.ntmps72,List.size_toArray,List.length_cons,List.length_nil,Nat.reduceAdd,Nat.reduceSub,Array.replicate_succ,Array.replicate_zero,List.push_toArray,List.append_toArray,List.nil_append,List.cons_append]
  gi_wp2
  refine⟨.bool true,?_,⟨true,rfl,xI (.inl o1)⟩,vb w _ _⟩;have:=kt (w.alloc (Obj.cells #[Value.slice a g.nr c,Value.slice la g.nb lc] 28)) (.bool true) 4;rw[World.size_alloc]at this;simp[results,Tryz.f72,go_sem,this]
 have o1':¬(100:Int)<(g.nr:Int):=by omega
 by_cases o2:100<g.nb
 ·have o2':(100:Int)<(g.nb:Int):=by omega
  refine callsIn_of_wp_marks Tryz.func72 rfl trivial ?_ rfl;simp only[Tryz.ntmps72,List.size_toArray,List.length_cons,List.length_nil,Nat.reduceAdd,Nat.reduceSub,Array.replicate_succ,Array.replicate_zero,List.push_toArray,List.append_toArray,List.nil_append,List.cons_append]
  gi_wp2
  refine⟨.bool true,?_,⟨true,rfl,xI (.inr (.inl o2))⟩,vb w _ _⟩;have:=kt (w.alloc (Obj.cells #[Value.slice a g.nr c,Value.slice la g.nb lc] 28)) (.bool true) 4;rw[World.size_alloc]at this;simp[results,Tryz.f72,go_sem,this]
 have o2':¬(100:Int)<(g.nb:Int):=by omega
 refine callsIn_of_wp_marks Tryz.func72 rfl trivial ?_ rfl;simp only[Tryz.ntmps72,List.size_toArray,List.length_cons,List.length_nil,Nat.reduceAdd,Nat.reduceSub,Array.replicate_succ,Array.replicate_zero,List.push_toArray,List.append_toArray,List.nil_append,List.cons_append]
 gi_wp2_with (refine⟨trivial,?_⟩;gi_at_call 102;refine(uhq _ _ _ _ _ _ _).mono ?_;rintro e w' ⟨rfl,rfl⟩)
 obtain⟨l,f⟩:=nm ((((w.alloc (Obj.cells #[Value.slice a g.nr c,Value.slice la g.nb lc] 28)).alloc (Obj.cells #[Value.bool false] 4)).alloc (Obj.cells #[Value.int IntKind.i64 0] 3)).alloc (Obj.cells #[Value.slice a g.nr c,Value.slice la g.nb lc] 28));have av:l.heap.size=w.heap.size+4:=by rw[<-f];simp
 have Q:Below w.heap.size w l:=by rw[<-f];exact((((Below.refl _ w).alloc (Nat.le_refl _) _).alloc (by simp) _).alloc (by simp;omega) _).alloc (by simp;omega) _
 have u:=kt (w.alloc (Obj.cells #[Value.slice a g.nr c,Value.slice la g.nb lc] 28)) (.bool false) 4;have R:=ubY (w.alloc (Obj.cells #[Value.slice a g.nr c,Value.slice la g.nb lc] 28)) (.bool false) 4;have P:=kt ((w.alloc (Obj.cells #[Value.slice a g.nr c,Value.slice la g.nb lc] 28)).alloc (Obj.cells #[Value.bool false] 4)) (.int .i64 0) 3;have V:=ubY ((w.alloc (Obj.cells #[Value.slice a g.nr c,Value.slice la g.nb lc] 28)).alloc (Obj.cells #[Value.bool false] 4)) (.int .i64 0) 3;have y:=kF (((w.alloc (Obj.cells #[Value.slice a g.nr c,Value.slice la g.nb lc] 28)).alloc (Obj.cells #[Value.bool false] 4)).alloc (Obj.cells #[Value.int IntKind.i64 0] 3)) (.slice a g.nr c) (.slice la g.nb lc) 28;simp only[World.size_alloc]at u R P V y;rw[f]at y;have aj:OvOwn w w.heap.size 0 l:=⟨⟨_,by rw[<-f];exact uv _ (uv _ u)⟩,by rw[<-f];exact vC _ (uv _ u) (vC _ u R),by rw[<-f];exact uv _ P,by rw[<-f];exact vC _ P V,Q,by omega⟩;rw[f];refine uas (gf:=127) (lb:=#[.pointer (some ⟨w.heap.size+1+1+1,0,none⟩)]) rfl (enters_of Tryz.func127 (by kernel_rfl) rfl)
  (ucr (w.heap.size+1+1+1) a la c lc g rb ro lb lo Y ba Z bc l h1 h2 y.1 y.2 (HF l Q)) (λ_=>rfl) ?hD (λk=>k=w.heap.size+1\/k=w.heap.size+1+1) ?hCD ?hCw
  (urN w g) (urO w g) ?hI ?hIx ?h0 ?round ?done ?stop
 case hD =>
  rintro k (rfl|⟨rfl,j⟩|⟨rfl,j⟩)
  ·omega
  ·have:=T j;omega
  have:=S j;omega
 case hCD =>
  rintro k (rfl|⟨rfl,j⟩|⟨rfl,j⟩) J
  ·omega
  ·have:=T j;omega
  have:=S j;omega
 case hCw =>
  rintro k hk J;omega
 case hI =>
  rintro s A E ⟨b,v⟩ n;exact⟨b.below (n.mono (by omega)),v⟩
 case hIx =>
  rintro cd s A E ⟨rfl,H,i,J,v⟩ n;exact⟨rfl,H.trans (n.mono (by omega)),Nat.le_trans i n.size,(n.cell (p:=⟨w.heap.size+1,0,none⟩) (by show w.heap.size+1<_;omega)).trans J,v⟩
 case h0=>exact⟨aj,Nat.zero_le _,Nat.zero_le _,λq U=>absurd U (Nat.not_lt_zero _)⟩
 case round =>
  intro l' p x an ao aa O;unfold uhp
  gi_wp2
  refine⟨Keep.refl _ _,aa,?_⟩;rintro x2 am aq ⟨b,L,ab,m⟩;obtain⟨rv,X⟩:=b.res;have k2:=b.resf;have k3:=b.sum;have k4:=b.sumf;have HI:=m;obtain⟨b1,b2⟩:=HS p O;have af:=uau g p;have r:Hid _:=af;have ah:=OvOwn.store (s':=(xW g p:Int)+((nd g p).bl:Int)) b (Nat.le_refl _);have z:=ua ah;by_cases t1:2000<xW g p+(nd g p).bl
  ·have t1':(2000:Int)<(xW g p:Int)+((nd g p).bl:Int):=by omega
   gi_wp2
   obtain⟨C,D,F⟩:=z.answer;exact⟨(Keep.setCell _ _ _ (.inr rfl)).trans (Keep.setCell _ _ _ (.inl rfl)),rfl,C,D,F,O,.inl (by have:=r;omega)⟩
  have t1':¬(2000:Int)<(xW g p:Int)+((nd g p).bl:Int):=by omega
  by_cases t2:32<(nd g p).nl
  ·have t2':(32:Int)<((nd g p).nl:Int):=by omega
   gi_wp2
   obtain⟨C,D,F⟩:=z.answer;exact⟨(Keep.setCell _ _ _ (.inr rfl)).trans (Keep.setCell _ _ _ (.inl rfl)),rfl,C,D,F,O,.inr t2⟩
  have t2':¬(32:Int)<((nd g p).nl:Int):=by omega
  gi_wp2
  have e:((xW g (p+1):Nat):Int)=(xW g p:Int)+((nd g p).bl:Int):=by rw[r.out];omega
  exact⟨Keep.setCell _ _ _ (.inr rfl),by rw[e];exact z,by omega,by have:=r;omega,vB HI (by have:=r;omega)⟩
 case done =>
  rintro d p x hd ap ⟨b,L,ab,m⟩ t;obtain⟨rv,X⟩:=b.res;have k2:=b.resf
  gi_wp2
  have ae:d≠w.heap.size+1:=by omega
  have hK':(x.setCell ⟨w.heap.size+1,0,none⟩ (.bool false)).heap[d]?=some (.deferred (some [])):=(Below.heap_setCell x ⟨w.heap.size+1,0,none⟩ _ d ae).trans t;refine⟨by simp,.inl ⟨_,_,rfl,run_takeDeferred hK',?_⟩⟩;have o:=kP (B:=w.heap.size+4) (x.setCell ⟨w.heap.size+1,0,none⟩ (.bool false)) (.deferred none) (d:=d) (by omega) (by simpa[World.setCell] using b.size);have ac:(x.setCell ⟨w.heap.size+1,0,none⟩ (.bool false)).cell? ⟨w.heap.size+1,0,none⟩=some (.bool false):=World.cell?_setCell_same' _ _ _ (by rw[X];rfl);have N:=(o.cell (p:=⟨w.heap.size+1,0,none⟩) (by show w.heap.size+1<_;omega)).trans ac;have I:=(b.bel.setCell (p:=⟨w.heap.size+1,0,none⟩) (by show w.heap.size<=w.heap.size+1;omega) (.bool false)).trans (o.mono (by omega));refine⟨.bool false,?_,⟨false,rfl,uJ ?_⟩,I⟩
  ·simp[results,Tryz.f72,go_sem,N]
  rintro (h|h|⟨q,U,h⟩)
  ·exact o1 h
  ·exact o2 h
  exact m q (by omega) h
 case stop =>
  rintro d cd p x hd au ⟨rfl,H,ai,ad,L,m⟩ t
  gi_wp2
  refine⟨by simp,.inl ⟨_,_,rfl,run_takeDeferred t,?_⟩⟩;have al:=(Array.getElem?_eq_some_iff.1 t).1;have o:=kP (B:=w.heap.size+4) x (.deferred none) (d:=d) (by omega) ai;have N:=(o.cell (p:=⟨w.heap.size+1,0,none⟩) (by show w.heap.size+1<_;omega)).trans ad;have I:=H.trans (o.mono (by omega));refine⟨.bool true,?_,⟨true,rfl,xI (.inr (.inr ⟨p,L,m⟩))⟩,I⟩;simp[results,Tryz.f72,go_sem,N]
end Go.Proofs.YtpghlcdkfldlpaaGreat
