import Derived.Test.YtimfigongapdnaaGreatT03
import Derived.Deep.Slices
import Derived.Shelf.RegionOpen
import Derived.Deep.AppendSrc
set_option linter.unusedVariables false
set_option linter.unusedSimpArgs false
set_option maxHeartbeats 40000000
set_option maxRecDepth 100000
namespace Go.Proofs.YtimfigongapdnaaGreat
open Go.RowKit
open M (OpD ug Gr)
def New(w w':World):Nat->Prop:=λb=>w.heap.size<=b/\b<w'.heap.size
def Soft(w w':World):Prop:=∀b o,w.heap.size<=b->b<w'.heap.size->w'.frozen? ⟨b,o,none⟩=false
theorem Soft.trans{a b c}(h:Soft a b)(k:Soft b c)(g:Below b.heap.size b c):Soft a c:=λx o d f=>by
 by_cases e:x<b.heap.size
 ·rw[g.frozen (p:=⟨x,o,none⟩) e];exact h x o d e
 exact k x o (by omega) f
theorem Soft.refl w:Soft w w:=λb o a c=>by omega
theorem qf w c t:Soft w (w.alloc (.cells c t)):=λb o d a=>by
 simp at a;obtain rfl:b=w.heap.size:=by omega
 have h:=World.alloc_heap_new w (.cells c t);simp only[World.frozen?,h];simp
theorem cN{W:World}{c:Array Value}{t:TypeId}{j:Nat}{v:Value}(y:Nat)(a:W.heap.size=y)(h:c[j]?=some v):(W.alloc (.cells c t)).cell? ⟨y,j,none⟩=some v:=by
 subst a;have e:=World.alloc_heap_new W (.cells c t);simp only[World.cell?,e];exact h
theorem Soft.set{w W}(h:Soft w W)a v:Soft w (W.setCell a v):=λb o c d=>by
 rw[World.frozen?_setCell];exact h b o c (by simpa[World.setCell] using d)
theorem ugF{Q}W a v(h:¬Q a.block):Stay Q W (W.setCell a v):=λb c=>Below.heap_setCell W a v b (λe=>h (e▸c))
theorem uK{w W}(h:Below w.heap.size w W)b o v(a:w.heap.size<=b):Below w.heap.size w (W.setCell ⟨b,o,none⟩ v):=h.setCell (p:=⟨b,o,none⟩) a v
theorem uj(W:World)(a:Addr)(v:Value):(W.setCell a v).heap.size=W.heap.size:=by simp[World.setCell]
structure CpS(A:World->Option Addr->Prop)(n:Nat)(w:World)(e:Ending)(w':World):Prop where
 val:∃a c,e=.returned (.slice a n c)/\A w' a
 bel:Below w.heap.size w w'
 soft:Soft w w'
theorem usA:(Tryz.prog.info? 5).map (λi=>(i.zero,i.size,i.bytes))=some (some (.int .u8 0),1,1):=by kernel_rfl
theorem uq2:(Tryz.prog.info? 3).map (λi=>(i.zero,i.size,i.bytes))=some (some (.int .i64 0),1,8):=by kernel_rfl
theorem uoS:(Tryz.prog.info? 118).map (λi=>(i.zero,i.size,i.bytes))=some (some (.agg #[.int .i64 0,.slice none 0 0,.int .i64 0]),3,40):=by kernel_rfl
def Row(w:World)(b:Nat)(t:TypeId)(n:Nat):Prop:=∃f,w.rowIs b t n f
theorem ul6(w:World)(z:Array Value)(n:Nat)(t:TypeId)(b:0<z.size):Row (w.alloc (.cells (madeCells z n) t)) w.heap.size t n :=
 ⟨λi=>z[i%z.size]!,madeCells z n,World.alloc_heap_new _ _,size_madeCells _ _,λi a=>by simp[madeCells,a]⟩
theorem Row.of_block{w w':World}{b:Nat}{t:TypeId}{n:Nat}(h:Row w b t n)(e:w'.heap[b]?=w.heap[b]?):Row w' b t n:=h.imp λ_ h=>h.of_block e
theorem Row.set{w:World}{b:Nat}{t:TypeId}{n:Nat}(h:Row w b t n)(i:Nat)(v:Value):Row (w.setCell ⟨b,i,none⟩ v) b t n:=let ⟨_,h⟩:=h;⟨_,h.set i v⟩
theorem Row.cell{w:World}{b:Nat}{t:TypeId}{n:Nat}(h:Row w b t n){i:Nat}(a:i<n):∃v,w.cell? ⟨b,i,none⟩=some v:=let ⟨_,h⟩:=h;⟨_,h.cell a⟩
theorem Row.frozen{w:World}{b:Nat}{t:TypeId}{n:Nat}(h:Row w b t n)(i:Nat):w.frozen? ⟨b,i,none⟩=false:=let ⟨_,h⟩:=h;h.frozen i
theorem uu{w:World}{b i:Nat}{v u:Value}(h:w.cell? ⟨b,i,none⟩=some u):(w.setCell ⟨b,i,none⟩ v).cell? ⟨b,i,none⟩=some v:=World.cell?_setCell_same' _ _ _ (by rw[h];rfl)
theorem um{w:World}{b i j:Nat}{v:Value}(h:i≠j):(w.setCell ⟨b,i,none⟩ v).cell? ⟨b,j,none⟩=w.cell? ⟨b,j,none⟩:=World.cell?_setCell_other w _ _ v (λe=>h (by injection e))
theorem ubh{w:World}{b a i j:Nat}{v:Value}(h:b≠a):(w.setCell ⟨b,i,none⟩ v).cell? ⟨a,j,none⟩=w.cell? ⟨a,j,none⟩:=World.cell?_setCell_other w _ _ v (λe=>h (by injection e))
theorem uq3:(Tryz.prog.info? 73).map (λi=>(i.zero,i.size,i.bytes))=some (some (.agg #[.slice none 0 0,.slice none 0 0]),2,48):=by kernel_rfl
theorem ul7:(Tryz.prog.info? 70).map (λi=>(i.zero,i.size,i.bytes))=some (some (.agg #[.slice none 0 0,.bool false,.slice none 0 0]),3,56):=by kernel_rfl
section
open Go.RowKit Go.Deep
open M (OpD ug Gr ur EX ins)
def utx(Q:Nat->Prop)(w:World)(b o:Nat)(d:ur):Prop :=
 w.cell? ⟨b,o,none⟩=some (.int .i64 d.kind)/\w.cell? ⟨b,o+1,none⟩=some (.int .i64 d.arg)/\w.cell? ⟨b,o+2,none⟩=some (.int .i64 d.to) /\
  ∃a c,w.cell? ⟨b,o+3,none⟩=some (.slice a d.sl c)/\Ints Q .i64 w a d.sl d.set
def InsA(Q:Nat->Prop)(w:World)(a:Option Addr)(n:Nat)(R:Nat->ur):Prop :=
 n=0\/∃b off,a=some ⟨b,off,none⟩/\Q b/\∀i,i<n->utx Q w b (off+i*4) (R i)
theorem InsA.on{Q w w' a n R}(h:InsA Q w a n R)(k:Stay Q w w'):InsA Q w' a n R:=by
 rcases h with h|⟨b,off,e,d,h⟩
 ·exact .inl h
 have c:∀o,w'.cell? ⟨b,o,none⟩=w.cell? ⟨b,o,none⟩:=λo=>World.cell?_of_block (a:=⟨b,o,none⟩) (k b d)
 refine .inr ⟨b,off,e,d,λi p=>?_⟩;obtain⟨f,g,j,q,r,l,m⟩:=h i p;exact⟨(c _).trans f,(c _).trans g,(c _).trans j,q,r,(c _).trans l,m.on k⟩
theorem InsA.later{Q w w' a n R}(h:InsA Q w a n R)(k:Below w.heap.size w w'):InsA Q w' a n R:=by
 rcases h with h|⟨b,off,e,m,h⟩
 ·exact .inl h
 refine .inr ⟨b,off,e,m,λi l=>?_⟩;obtain⟨c,d,f,o,p,g,j⟩:=h i l;exact⟨ue c k,ue d k,ue f k,o,p,ue g k,j.later k⟩
theorem InsA.wide{Q Q' w a n R}(h:InsA Q w a n R)(k:∀b,Q b->Q' b):InsA Q' w a n R:=by
 rcases h with h|⟨b,off,e,m,h⟩
 ·exact .inl h
 refine .inr ⟨b,off,e,k b m,λi l=>?_⟩;obtain⟨c,d,f,o,p,g,j⟩:=h i l;exact⟨c,d,f,o,p,g,j.wide k⟩
theorem usd:(Tryz.prog.info? 86).map (λi=>(i.zero,i.size,i.bytes))=some (some (.agg #[.int .i64 0,.int .i64 0,.int .i64 0,.slice none 0 0]),4,48):=by kernel_rfl
section
variable {H:Type} {enc:TypeId×Value->H} {w:World} {base:Nat} {spare:Nat->Bool} {held:Bool}
instance:Inhabited ur:=⟨ins 0 0 0⟩
end
def set3(w:World)(b o:Nat)(x y z:Int):World:=((w.setCell ⟨b,o,none⟩ (.int .i64 x)).setCell ⟨b,o+1,none⟩ (.int .i64 y)).setCell ⟨b,o+2,none⟩ (.int .i64 z)
def from_(k:Int):Nat->Int:=λi=>k+i
end
open M (ur)
structure EvD where
 kind:Int
 arg:Int
 pos:Int
def yJ(S:Nat->Int)(b:Int):Nat->Bool
 |0=>false
 |m+1=>yJ S b m||(decide (S (2*m)<=b)&&decide (b<=S (2*m+1)))
def yr(n:Nat)(S:Nat->Int)(b:Int):Bool:=yJ S b (n / 2)
theorem uat S b{m n}(h:m<=n)(k:yJ S b m=true):yJ S b n=true:=by
 induction n with
 |zero =>
  obtain rfl:m=0:=by omega
  exact k
 |succ n a =>
  by_cases e:m=n+1
  ·subst e;exact k
  rw[yJ,a (by omega)];rfl
def uqQ(v:Bool)(w:World)(e:Ending)(w':World):Prop:=e=.returned (.bool v)/\w'=w
def ua7(v:Value)(w:World)(e:Ending)(w':World):Prop:=e=.returned v/\Below w.heap.size w w'
def xI(v:Bool)(w:World)(e:Ending)(w':World):Prop:=e=.returned (.bool v)/\Below w.heap.size w w'
structure FrD where
 kind:Int
 to:Int
 pos:Nat
 log:Nat
structure MSt where
 at_:Int
 pos:Nat
 st:List FrD
 log:List EvD
 far:Nat
 exp:Nat->Bool
 steps:Nat
 throws:Nat
 done:Bool
 code:Int
 label:Int
def MSt.inNot(s:MSt):Bool:=s.st.any (λf=>f.kind==1)
def MSt.fin(s:MSt)(c:Int):MSt:={ s with done:=true,code:=c }
def MSt.push(s:MSt)(f:FrD)(most:Int):MSt:=if (s.st.length:Int) ≥ most then s.fin 3 else { s with st:=s.st++[f] }
def uU:List FrD->Option (FrD×List FrD)
 |[]=>none
 |f::r=>if f.kind=2 then uU r else some (f,r)
def MSt.fail(s:MSt):MSt :=
 match uU s.st.reverse with
 |none=>s.fin 1
 |some (f,r)=>{ s with st:=r.reverse,pos:=f.pos,log:=s.log.take f.log,at_:=f.to }
def FrC(w:World)(b o:Nat)(f:FrD):Prop:=w.cell? ⟨b,o,none⟩=some (.int .i64 f.kind)/\w.cell? ⟨b,o+1,none⟩=some (.int .i64 f.to)/\w.cell? ⟨b,o+2,none⟩=some (.int .i64 (f.pos:Int))/\w.cell? ⟨b,o+3,none⟩=some (.int .i64 (f.log:Int))
def FrA(w:World)(a:Option Addr)(l:List FrD):Prop :=
 l.length=0\/∃b,a=some ⟨b,0,none⟩/\∀i f,l[i]?=some f->FrC w b (i*4) f
theorem FrA.later{w w' a l}(h:FrA w a l)(k:Below w.heap.size w w'):FrA w' a l:=by
 rcases h with h|⟨b,e,h⟩
 ·exact .inl h
 exact .inr ⟨b,e,λi f c=>⟨ue (h i f c).1 k,ue (h i f c).2.1 k,ue (h i f c).2.2.1 k,ue (h i f c).2.2.2 k⟩⟩
def stV(s:MSt)(ka:Option Addr)(kc:Nat)(la:Option Addr)(lc:Nat)(a:Option Addr)(c b:Nat):Value :=
 .agg #[.int .i64 s.at_,.int .i64 (s.pos:Int),.slice ka s.st.length kc,.slice la s.log.length lc,.int .i64 (s.far:Int),.slice a c b,.int .i64 (s.steps:Int),.int .i64 (s.throws:Int),.bool s.done,.int .i64 s.code,.int .i64 s.label]
def utz(w:World)(n:Nat)(S:Nat->Int)(b:Int)(i:Value)(wr:World):Prop:=∃k:Nat,2*k<=n+1/\i=.int .i64 (2*(k:Int))/\yJ S b k=false/\wr=w
def inI(w:World)(n:Nat)(s:MSt)(i:Value)(wr:World):Prop:=∃k:Nat,k<=n/\i=.int .i64 (k:Int)/\(s.st.take k).any (λf=>f.kind==1)=false/\wr=w
theorem uau Q a n c S b w(f:Ints Q .i64 w a n S)(E:n<=1048576) :
  Calls Tryz.prog 137 #[.slice a n c,.int .i64 b] w (uqQ (yr n S b) w):=by
 have r:=ua f;go_enter Tryz.func137,Tryz.ntmps137;go_wp2;go_loopw [5] (λi wr=>utz w n S b i wr) (λi _=>n+1-(intOf i).toNat)
 case atStart=>exact⟨0,by omega,rfl,rfl,rfl⟩
 case round =>
  obtain⟨k,B,rfl,x,G⟩:=hrel;subst wr;have e:=ua x;by_cases D:2*k+1<n
  ·rcases r.out with A|⟨z,off,rfl,F,f⟩
   ·omega
   have s:=f (2*k) (by omega);have t:=f (2*k+1) (by omega);have y:(2*(k:Int))+1<(n:Int):=(by omega);have C:(2*(k:Int))<(n:Int):=(by omega);obtain⟨u,j⟩:=nm (S (2*k));obtain⟨v,l⟩:=nm (S (2*k+1));have g:=ua j;have h:=ua l;rw[j]at s;rw[l]at t;by_cases o:u<=b
   ·by_cases p:b<=v
    ·have d:Hid (yr n S b=true):=uat S b (m:=k+1) (by omega) (by rw[yJ,g.out,h.out,e.out];simp[o,p]);go_wp2;go_ret;exact⟨by rw[d.out];rfl,rfl⟩
    have d:Hid (yJ S b (k+1)=false):=(by show _=_;rw[yJ,g.out,h.out,e.out];simp[p]);go_wp2;go_roundw
    case rel=>exact⟨k+1,by omega,by go_num,d,rfl⟩
    case measure=>simp[intOf];omega
   have d:Hid (yJ S b (k+1)=false):=(by show _=_;rw[yJ,g.out,h.out,e.out];simp[o]);go_wp2;go_roundw
   case rel=>exact⟨k+1,by omega,by go_num,d,rfl⟩
   case measure=>simp[intOf];omega
  have y:¬(2*(k:Int))+1<(n:Int):=by omega
  have d:Hid (yr n S b=false):=by
   show yJ S b (n / 2)=false;by_cases q:yJ S b (n / 2)=true
   ·have:=uat S b (show n / 2<=k by omega) q;rw[e.out]at this;cases this
   simpa using q
  go_wp2;go_ret;exact⟨by rw[d.out];rfl,rfl⟩
theorem uav s ka la b kc lc d c a w :
  Calls Tryz.prog 92 #[stV s ka kc la lc b d c,.int .i64 a] w (ua7 (stV (s.fin a) ka kc la lc b d c) w):=by
 unfold stV;go_enter Tryz.func92,Tryz.ntmps92;go_wp2;refine bodyPost_ret (v:=stV (s.fin a) ka kc la lc b d c) ?_ rfl ?_
 ·simp[results,Tryz.f92,go_sem,stV,MSt.fin]
 exact⟨rfl,uP w _ _⟩
theorem ucA s ka la A kc lc C B w(t:FrA w ka s.st)(y:s.st.length<=1000) :
  Calls Tryz.prog 133 #[stV s ka kc la lc A C B] w (xI s.inNot w):=by
 have q:Hid (∀x,FrA (w.alloc x) ka s.st):=λx=>t.later (ui w x)
 obtain⟨n,l⟩:=nm s.st.length;have c:=ua l;unfold stV;rw[l]at y ⊢;go_enter Tryz.func133,Tryz.ntmps133;go_wp2;generalize d:w.alloc _=X;have h:Hid (Below w.heap.size w X):=d▸ui w _;have o:Hid (FrA X ka s.st):=d▸q _;have z:X.cell? ⟨w.heap.size,2,none⟩=some (.slice ka n kc):=d▸cN w.heap.size rfl rfl;have I:=ud z;go_loopw [3] (λi wr=>inI X n s i wr) (λi _=>n-(intOf i).toNat)
 case atStart=>exact⟨0,Nat.zero_le _,rfl,rfl,rfl⟩
 case round =>
  obtain⟨k,F,rfl,v,H⟩:=hrel;subst wr;have g:=ua v;by_cases G:k<n
  ·rcases o.out with E|⟨b,rfl,u⟩
   ·have:=c;omega
   have e:k<s.st.length:=(by have:=c;omega);obtain⟨D,_,_,_⟩:=u k s.st[k] (List.getElem?_eq_getElem e);have hlt':(k:Int)<(n:Int):=(by omega);have r:Hid (s.st.take (k+1)=s.st.take k++[s.st[k]]):=(by show _=_;rw[List.take_append_getElem e]);have p:=ua (List.getElem_mem e);generalize s.st[k]=j at *;cases m:(j.kind==1) with
   |true =>
    have a:Hid (s.inNot=true):=by
     show s.st.any (λf=>f.kind==1)=true;rw[List.any_eq_true];exact⟨j,p,m⟩
    go_wp2;go_ret;exact⟨by rw[a.out];rfl,h⟩
   |false =>
    have a:Hid ((s.st.take (k+1)).any (λf=>f.kind==1)=false):=by
     show _=_;rw[r.out,List.any_append,g.out];simp[m]
    go_wp2;go_roundw
    case rel=>exact⟨k+1,by omega,by go_num,a,rfl⟩
    case measure=>simp[intOf];omega
  obtain rfl:k=n:=by omega
  have a:Hid (s.inNot=false):=by
   have:=g;rw[List.take_of_length_le (by have:=c.out;omega)]at this;exact this
  go_wp2;go_ret;exact⟨by rw[a.out];rfl,h⟩
def Box(w:World)(b:Nat)(c:Array Value):Prop:=∃t,w.heap[b]?=some (.cells c t)
theorem Box.x{w b c}(h:Box w b c):(∀o,w.cell? ⟨b,o,none⟩=c[o]?)/\(∀o,w.frozen? ⟨b,o,none⟩=false)/\b<w.heap.size:=by
 obtain⟨t,h⟩:=h;exact⟨λo=>by simp only[World.cell?,h];rfl,λo=>by simp only[World.frozen?,h];simp,(Array.getElem?_eq_some_iff.1 h).1⟩
theorem Box.blk{w w' b c}(h:Box w b c)(k:w'.heap[b]?=w.heap[b]?):Box w' b c:=let ⟨t,h⟩:=h;⟨t,k.trans h⟩
theorem Box.on{w w' b c}(h:Box w b c)(k:Below w.heap.size w w'):Box w' b c:=h.blk (k.block b h.x.2.2)
theorem Box.al{w b c}(h:Box w b c)o:Box (w.alloc o) b c:=h.on (ui w o)
theorem Box.set{w b c}(h:Box w b c)i v:Box (w.setCell ⟨b,i,none⟩ v) b (c.setIfInBounds i v):=let ⟨t,h⟩:=h;⟨t,by simp[World.setCell,Array.getElem?_modify,h]⟩
theorem Box.far{w b c}(h:Box w b c)a i v(d:b≠a):Box (w.setCell ⟨a,i,none⟩ v) b c:=h.blk (Below.heap_setCell _ _ _ _ d)
theorem ux(w:World)(c:Array Value)(t:TypeId):Box (w.alloc (.cells c t)) w.heap.size c:=⟨t,World.alloc_heap_new w _⟩
theorem yG(w:World)(c:Array Value)(t:TypeId)(b:Nat)(a:b=w.heap.size):Box (w.alloc (.cells c t)) b c:=a▸ux w c t
def stC(s:MSt)(ka:Option Addr)(n kc:Nat)(la:Option Addr)(ln lc:Nat)(a:Option Addr)(c b:Nat):Array Value :=
 #[.int .i64 s.at_, .int .i64 (s.pos : Int), .slice ka n kc, .slice la ln lc, .int .i64 (s.far : Int), .slice a c b, .int .i64 (s.steps : Int), .int .i64 (s.throws : Int), .bool s.done, .int .i64 s.code, .int .i64 s.label]
def st0:Array Value:=#[.int .i64 0,.int .i64 0,.slice none 0 0,.slice none 0 0,.int .i64 0,.slice none 0 0,.int .i64 0,.int .i64 0,.bool false,.int .i64 0,.int .i64 0]
theorem xp s ka kc la lc a c b:stV s ka kc la lc a c b=.agg (stC s ka s.st.length kc la s.log.length lc a c b):=rfl
def MSt.top(s:MSt)(k:Int):Bool:=match s.st.getLast? with | none=>false | some f=>f.kind==k
theorem ua6{l:List FrD}{j:Nat}(h:l.length=j+1):∃f,l[j]? = some f/\l.getLast? = some f:=by
 have hj:j<l.length:=by omega
 refine⟨l[j],List.getElem?_eq_getElem hj,?_⟩;rw[List.getLast?_eq_getElem?,h];simp[hj]
theorem ulD(s:MSt)(ka la xa:Option Addr)(kc lc xn xc:Nat)(kd:Int)(w:World)(hK:FrA w ka s.st)(hn:s.st.length<=1000) :
  Calls Tryz.prog 135 #[stV s ka kc la lc xa xn xc,.int .i64 kd] w (xI (s.top kd) w):=by
 obtain⟨n,hnn⟩:=nm s.st.length;rcases Nat.eq_zero_or_pos n with h0 | h0
 ·subst h0
  have HT:Hid (s.top kd=false):=by
   show s.top kd=false;unfold MSt.top;rw[List.eq_nil_of_length_eq_zero hnn];rfl
  unfold stV;rw[hnn];go_enter Tryz.func135,Tryz.ntmps135;go_wp2;go_ret;exact⟨by rw[HT.out];rfl,ui w _⟩
 ·obtain⟨j,rfl⟩:∃j,n=j+1:=⟨n-1,by omega⟩
  obtain⟨f,hf,hl⟩:=ua6 hnn;have HT:Hid (s.top kd=(f.kind==kd)):=by show _=_;unfold MSt.top;rw[hl]
  rcases hK with q | ⟨b,rfl,hc⟩
  ·omega
  obtain⟨c0,_⟩:=hc j f hf;have lb:=ud c0;have hj:j<=1000:=by omega
  unfold stV;rw[hnn];have hlt:(j:Int)<((j+1:Nat):Int):=by omega
  have e1:((j+1:Nat):Int)-1=(j:Int):=by omega
  go_enter Tryz.func135,Tryz.ntmps135;go_wp2;go_ret;exact⟨by rw[HT.out];rfl,ui w _⟩
theorem qU(l:List FrD)(f:FrD)(h:f.kind=2):uU (l++[f]).reverse=uU l.reverse:=by
 rw[List.reverse_append];show uU (f::l.reverse)=_;rw[uU,if_pos h]
theorem kW{l:List FrD}{j:Nat}{f:FrD}(hf:l[j]? = some f):l.take (j+1)=l.take j++[f]:=by
 obtain⟨hj,e⟩:=List.getElem?_eq_some_iff.1 hf;rw[<-e,List.take_append_getElem hj]
def faI(X:World)(n:Nat)(s:MSt)(i:Value)(wr:World):Prop :=
 ((∃j:Nat,j<n/\i=.int .i64 (j:Int)/\uU s.st.reverse=uU (s.st.take (j+1)).reverse)\/(i=.int .i64 (-1)/\uU s.st.reverse=none))/\Below X.heap.size X wr
theorem ud0(s:MSt)(ka la xa:Option Addr)(kc lc xn xc:Nat)(w:World)(hK:FrA w ka s.st)(hn:s.st.length<=1000)(hkc:s.st.length<=kc)(hlc:s.log.length<=lc)(hlog:∀f,f∈s.st->f.kind≠2->f.log<=s.log.length) :
  Calls Tryz.prog 134 #[stV s ka kc la lc xa xn xc] w (ua7 (stV s.fail ka kc la lc xa xn xc) w):=by
 have HF:Hid (∀x y,FrA ((w.alloc x).alloc y) ka s.st):=fun x y=>hK.later (uP w x y)
 have HLG:Hid _:=hlog;rw[xp];generalize hnn:s.st.length=n at *;generalize hll:s.log.length=ln at *;have HN:Hid _:=hnn;have HLL:Hid _:=hll;clear hK hlog hnn hll;unfold stC;go_enter Tryz.func134,Tryz.ntmps134;go_wp2;have bx:=(ux w (stC s ka n kc la ln lc xa xn xc) 155).on (ui _ (.cells st0 155));have by_:=ux (w.alloc (.cells (stC s ka n kc la ln lc xa xn xc) 155)) st0 155;have HX:=uP w (.cells (stC s ka n kc la ln lc xa xn xc) 155) (.cells st0 155);replace HF:=HF.out (.cells (stC s ka n kc la ln lc xa xn xc) 155) (.cells st0 155);unfold stC st0 at bx by_ HX HF;simp only[World.size_alloc]at by_;generalize (w.alloc _).alloc _=X at *;replace HX:Hid _:=HX;replace HF:Hid (FrA X ka s.st):=HF;go_loopw [3] (fun i wr=>faI X n s i wr) (fun i _=>(intOf i+1).toNat)
 case atStart =>
  refine⟨?_,Below.refl _ _⟩;by_cases h0:n=0
  ·have hnil:s.st = []:=List.eq_nil_of_length_eq_zero (HN.out.trans h0)
   exact .inr ⟨by subst h0;rfl,by rw[hnil];rfl⟩
  ·exact .inl ⟨n-1,by omega,by congr 1;omega,by rw[List.take_of_length_le (by rw[HN.out];omega)]⟩
 case round =>
  obtain⟨hj,hbel⟩:=hrel;obtain⟨z,p,lz⟩:=(bx.on hbel).x;have bY:=ua (by_.on hbel);obtain⟨y,q,ly⟩:=bY.out.x;clear bx by_;have HBE:Hid _:=hbel;rcases hj with⟨j,hj,rfl,hun⟩|⟨rfl,hun⟩
  ·have hjl:j<s.st.length:=by rw[HN.out];exact hj
   have hfr:=List.getElem?_eq_getElem hjl;have HIN:Hid (s.st[j]∈s.st):=List.getElem_mem hjl;generalize s.st[j]=fr at *;have HTK:Hid (s.st.take (j+1)=s.st.take j++[fr]):=kW hfr;have HUN:Hid _:=hun;rcases HF.out with h0 | ⟨b,rfl,hf⟩
   ·have:=HN.out;omega
   obtain⟨c0,c1,c2,c3⟩:=hf j fr hfr;replace c0:=ue c0 hbel;replace c1:=ue c1 hbel;replace c2:=ue c2 hbel;replace c3:=ue c3 hbel;have lb2:=ud c0;have hlt':(j:Int)<(n:Int):=by omega
   have hge:(0:Int)<=(j:Int):=by omega
   clear hf hfr hun hbel hjl;cases hq:(fr.kind != 2) with
   |false =>
    have hk2:Hid (fr.kind=2):=by show fr.kind=2;simpa using hq
    go_wp2;go_roundw
    case rel =>
     have hu:uU s.st.reverse=uU (s.st.take j).reverse:=by rw[HUN.out,HTK.out,qU _ _ hk2.out]
     refine⟨?_,uf HBE.out (ui wr _)⟩;by_cases h0:j=0
     ·exact .inr ⟨by subst h0;rfl,by rw[hu,h0];rfl⟩
     ·exact .inl ⟨j-1,by omega,by congr 1;omega,by rw[hu,show j-1+1=j by omega]⟩
    case measure=>simp[intOf]
   |true =>
    have hk2:fr.kind≠2:=by simpa using hq
    have hlg:=HLG.out fr HIN.out hk2;have hl0:(0:Int)<=(fr.log:Int):=by omega
    have hl3:(fr.log:Int)<=(lc:Int):=by omega
    have hj3:(j:Int)<=(kc:Int):=by omega
    have hu:uU s.st.reverse=some (fr,(s.st.take j).reverse):=by
     rw[HUN.out,HTK.out,List.reverse_append];exact (if_neg hk2:_)
    have HVR:Hid (stV s.fail (some ⟨b,0,none⟩) kc la lc xa xn xc=.agg (stC { s with at_:=fr.to,pos:=fr.pos } (some ⟨b,0,none⟩) j kc la fr.log lc xa xn xc)):=by
     show _=_;have hl1:(s.st.take j).length=j:=by rw[List.length_take,HN.out];omega
     have hl2:(s.log.take fr.log).length=fr.log:=by rw[List.length_take,HLL.out];omega
     unfold MSt.fail;rw[hu];simp only[stV,stC,List.reverse_reverse,hl1,hl2]
    clear hk2 hu;go_wp2;refine bodyPost_ret (v:=stV s.fail (some ⟨b,0,none⟩) kc la lc xa xn xc) ?_ rfl ⟨rfl,?_⟩
    ·rw[HVR.out]
     simp[results,Tryz.f134,go_sem,stC, *]
    ·have HB:=uf HX.out HBE.out
     repeat with_reducible first|exact HB | refine uK ?_ _ _ _ (by omega) | refine uf ?_ (ui _ _)
  ·have HVE:Hid (stV s.fail ka kc la lc xa xn xc=stV (s.fin 1) ka kc la lc xa xn xc):=by
    show _=_;unfold MSt.fail;rw[hun]
   have hn1:¬(0:Int)<=-1:=by omega
   clear hun hbel;go_wp2_with fail;have hc:=uav s ka la xa kc lc xn xc 1 wr;rw[xp,HN.out,HLL.out]at hc;refine hc.mono ?_;rintro e W ⟨rfl,hb⟩;obtain⟨y',q',ly'⟩:=(bY.out.on hb).x;have HB:Hid _:=uf HX.out (uf HBE.out hb);clear hb hc y q z p;rw[xp];simp only[MSt.fin,HN.out,HLL.out,stC];go_wp2;refine bodyPost_ret (v:=stV s.fail ka kc la lc xa xn xc) ?_ rfl ⟨rfl,?_⟩
   ·rw[HVE.out,xp]
    simp[results,Tryz.f134,go_sem,MSt.fin,HN.out,HLL.out,stC, *]
   ·repeat with_reducible first|exact HB.out | refine uK ?_ _ _ _ (by omega)
def Wr(w:World)(g n:Nat):Prop:=∀j,j<n->(w.cell? ⟨g,j,none⟩).isSome=true/\w.frozen? ⟨g,j,none⟩=false
def OwnC(Q:Nat->Prop)(w:World)(v:Value)(a n:Nat)(cs:List Value):Prop :=
 (v=.slice none 0 0/\n=0/\cs = [])\/∃g cap,v=.slice (some ⟨g,0,none⟩) n cap/\Q g/\cs.length=n*a/\n<=cap/\(∀j,j<cs.length->w.cell? ⟨g,j,none⟩=cs[j]?)/\Wr w g (cap*a)
structure Grew(Q:Nat->Prop)(w w':World):Prop where
 os:w'.os=w.os
 tape:w'.tape=w.tape
 output:w'.output=w.output
 size:w.heap.size<=w'.heap.size
 block:∀b,b<w.heap.size->¬Q b->w'.heap[b]?=w.heap[b]?
 frozen:∀b o,b<w.heap.size->w'.frozen? ⟨b,o,none⟩=w.frozen? ⟨b,o,none⟩
 fresh:∀b o,w.heap.size<=b->b<w'.heap.size->w'.frozen? ⟨b,o,none⟩=false
theorem Soft.grew{Q w0 w w'}(h:Soft w0 w)(g:Grew Q w w'):Soft w0 w':=λb o a c=>by
 by_cases e:b<w.heap.size
 ·rw[g.frozen b o e];exact h b o a e
 exact g.fresh b o (by omega) c
theorem Wr.later{w w' g n}(h:Wr w g n)(k:w'.heap[g]?=w.heap[g]?):Wr w' g n:=λj b=>by
 rw[World.cell?_of_block (a:=⟨g,j,none⟩) k,World.frozen?_of_block (a:=⟨g,j,none⟩) k];exact h j b
theorem OwnC.on{Q w w' v c n cs}(h:OwnC Q w v c n cs)(k:Stay Q w w'):OwnC Q w' v c n cs:=by
 rcases h with h|⟨g,cap,d,b,e,f,i,l⟩
 ·exact .inl h
 exact .inr ⟨g,cap,d,b,e,f,λj m=>by rw[World.cell?_of_block (a:=⟨g,j,none⟩) (k g b)];exact i j m,l.later (k g b)⟩
theorem xY g:∀(a:List Value) (o:Nat) (w:World) (b:Nat),b≠g->(w.setCells g o a).heap[b]?=w.heap[b]?
 |[],_,_,_,_=>rfl
 |v::r,o,w,b,h=>by
  show((w.setCell ⟨g,o,none⟩ v).setCells g (o+1) r).heap[b]?=_;rw[xY g r (o+1) _ b h,Below.heap_setCell _ _ _ _ h]
theorem yx g:∀(a:List Value) (o:Nat) (w:World),(w.setCells g o a).heap.size=w.heap.size
 |[],_,_=>rfl
 |v::r,o,w=>by
  show((w.setCell ⟨g,o,none⟩ v).setCells g (o+1) r).heap.size=_;rw[yx g r (o+1) _,uj]
theorem qu g:∀(a:List Value) (o:Nat) (w:World),(w.setCells g o a).os=w.os/\(w.setCells g o a).tape=w.tape/\(w.setCells g o a).output=w.output
 |[],_,_=>⟨rfl,rfl,rfl⟩
 |v::r,o,w=>qu g r (o+1) (w.setCell ⟨g,o,none⟩ v)
theorem ulQ{Q w v x r n m cs news t s e}ty{i z D}(S:Tryz.prog.underlying t=some (.slice e))(R:Tryz.prog.info? e=some i)(ac:i.zero=some z)(ad:i.size=r)(ae:i.bytes=D)(af:z.cells.size=r)(aa:OwnC Q w v r n cs)(f:Src Tryz.prog r s x m news w)(W:n+m<=16777216)(l:D<=128)(Y:v=.slice none 0 0->0<m) :
  ∃y w',(Builtin.append_ #[t,s] ty #[v,x]).run Tryz.prog w=.ok y w'/\OwnC (λb=>Q b\/w.heap.size<=b) w' y r (n+m) (cs++news)/\Grew (λb=>Q b) w w'/\w'.heap.size<=w.heap.size+1:=by
 subst ad;have E:∀(A:Option Addr) (cap:Nat) (L:(Builtin.firstCells i.size n (.slice A n cap)).run Tryz.prog w.drew=.ok cs.toArray w.drew),cs.length=n*i.size->cap<n+m->v=.slice A n cap ->
   ∃y w',(Builtin.append_ #[t,s] ty #[v,x]).run Tryz.prog w=.ok y w'/\OwnC (λb=>Q b\/w.heap.size<=b) w' y i.size (n+m) (cs++news)/\Grew (λb=>Q b) w w'/\w'.heap.size<=w.heap.size+1:=by
  rintro A cap L p N rfl;have B:=run_append_grow_src (P:=Tryz.prog) w t s ty e i z S R ac A n cap cs L x m news f N (by omega) (by rw[ae];exact growslice_fits N (by have:(n+m)*D<=16777216*128:=Nat.mul_le_mul W l;omega));have O:=grownCap_ge w (n+m) cap e;refine⟨_,_,B,.inr ⟨w.heap.size,_,rfl,.inr (Nat.le_refl _),by rw[List.length_append,p,f.newsLen,Nat.add_mul],O,λj c=>?_,λj c=>⟨?_,?_⟩⟩,⟨rfl,rfl,rfl,by simp,λb l _=>Below.heap_alloc w.drew _ _ l,λb o l=>World.frozen?_of_block (a:=⟨b,o,none⟩) (Below.heap_alloc w.drew _ _ l),λb o H d=>qf w.drew _ e b o H d⟩,by simp⟩
  ·have h:=World.alloc_heap_new w.drew (Obj.cells ((cs++news).toArray++Builtin.zeroCells z.cells (grownCap w (n+m) cap e-(n+m))) e);have h':(w.drew.alloc (Obj.cells ((cs++news).toArray++Builtin.zeroCells z.cells (grownCap w (n+m) cap e-(n+m))) e)).heap[w.heap.size]?=some (Obj.cells ((cs++news).toArray++Builtin.zeroCells z.cells (grownCap w (n+m) cap e-(n+m))) e):=h;simp only[World.cell?,h'];rw[Array.getElem?_append_left (by simpa using c)];simp
  ·have h:=World.alloc_heap_new w.drew (Obj.cells ((cs++news).toArray++Builtin.zeroCells z.cells (grownCap w (n+m) cap e-(n+m))) e);have h':(w.drew.alloc (Obj.cells ((cs++news).toArray++Builtin.zeroCells z.cells (grownCap w (n+m) cap e-(n+m))) e)).heap[w.heap.size]?=some (Obj.cells ((cs++news).toArray++Builtin.zeroCells z.cells (grownCap w (n+m) cap e-(n+m))) e):=h;simp only[World.cell?,h'];have ab:((cs++news).toArray++Builtin.zeroCells z.cells (grownCap w (n+m) cap e-(n+m))).size=grownCap w (n+m) cap e*i.size:=by
    simp only[Array.size_append,List.size_toArray,List.length_append,p,f.newsLen,size_zeroCells,af];generalize grownCap w (n+m) cap e=G at O ⊢;obtain⟨k,rfl⟩:∃k,G=n+m+k:=⟨G-(n+m),by omega⟩;rw[show n+m+k-(n+m)=k by omega,Nat.add_mul,Nat.add_mul]
   rw[Array.getElem?_eq_getElem (by rw[ab];exact c)];rfl
  have h:=World.alloc_heap_new w.drew (Obj.cells ((cs++news).toArray++Builtin.zeroCells z.cells (grownCap w (n+m) cap e-(n+m))) e);have h':(w.drew.alloc (Obj.cells ((cs++news).toArray++Builtin.zeroCells z.cells (grownCap w (n+m) cap e-(n+m))) e)).heap[w.heap.size]?=some (Obj.cells ((cs++news).toArray++Builtin.zeroCells z.cells (grownCap w (n+m) cap e-(n+m))) e):=h;simp only[World.frozen?,h'];simp
 rcases aa with⟨rfl,rfl,rfl⟩|⟨g,cap,rfl,I,p,ah,J,q⟩
 ·exact E none 0 (by rw[run_firstCells_none]) (by simp) (by have:=Y rfl;omega) rfl
 by_cases C:n+m<=cap
 ·have B:=run_append_room_src (P:=Tryz.prog) w t s ty e i S R g 0 n cap x m news f C
   (λj c=>by rw[Nat.zero_add];rw[f.newsLen]at c;exact(q _ (by have:(n+m)*i.size<=cap*i.size:=Nat.mul_le_mul_right _ C;rw[Nat.add_mul]at this;omega)).1)
   (λj c=>by rw[Nat.zero_add];rw[f.newsLen]at c;exact(q _ (by have:(n+m)*i.size<=cap*i.size:=Nat.mul_le_mul_right _ C;rw[Nat.add_mul]at this;omega)).2)
  rw[Nat.zero_add]at B;have U:(n+m)*i.size<=cap*i.size:=Nat.mul_le_mul_right _ C;rw[Nat.add_mul]at U;have Z:=f.newsLen;obtain⟨o1,o2,o3⟩:=qu g news (n*i.size) w;refine⟨_,_,B,.inr ⟨g,cap,rfl,.inl I,by rw[List.length_append,p,f.newsLen,Nat.add_mul],by omega,λj c=>?_,λj c=>⟨?_,?_⟩⟩,⟨o1,o2,o3,by rw[yx];exact Nat.le_refl _,λb _ l=>xY g _ _ _ _ (λe=>l (e▸I)),λb o _=>World.frozen?_setCells _ _ _ _ _,λb o H d=>by rw[yx]at d;omega⟩,by rw[yx];omega⟩
  ·rw[List.length_append,Z]at c;by_cases X:j<n*i.size
   ·rw[World.cell?_setCells_out g _ _ w _ (λ_ _=>Or.inl X),List.getElem?_append_left (by omega)];exact J j (by omega)
   have d:=World.cell?_setCells_in g news (n*i.size) w (λk V=>(q _ (by omega)).1) (j-n*i.size) (by omega);rw[show n*i.size+(j-n*i.size)=j by omega]at d;rw[d,List.getElem?_append_right (by omega),p,List.getElem?_eq_getElem (by omega)]
  ·by_cases ag:n*i.size<=j/\j<n*i.size+news.length
   ·have d:=World.cell?_setCells_in g news (n*i.size) w (λk V=>(q _ (by omega)).1) (j-n*i.size) (by omega);rw[show n*i.size+(j-n*i.size)=j by omega]at d;rw[d];rfl
   rw[World.cell?_setCells_out g _ _ w _ (λ_ _=>by simp;omega)];exact(q j c).1
  rw[World.frozen?_setCells];exact(q j c).2
 exact E (some ⟨g,0,none⟩) cap (run_firstCells_some (P:=Tryz.prog) w.drew i.size n ⟨g,0,none⟩ n cap cs p (λj u T=>by
  have c:=(List.getElem?_eq_some_iff.1 T).1;have e':(⟨g,0,none⟩:Addr).add j=⟨g,j,none⟩:=by
   by_cases F:j=0
   ·subst F;simp[Addr.add]
   simp[Addr.add,F]
  rw[e',<-T];exact J j c)) p (by omega) rfl
structure vG(t e:TypeId)(sz bytes:Nat):Prop where
 und:Tryz.prog.underlying t=some (.slice e)
 info:∃z,(Tryz.prog.info? e).map (λi=>(i.zero,i.size,i.bytes))=some (some z,sz,bytes)/\z.cells.size=sz
 bytes:bytes<=128
theorem ym{Q w v x a h n m cs news t f e}ty(c:vG t e a h)(p:OwnC Q w v a n cs)(q:Src Tryz.prog a f x m news w)(l:n+m<=16777216)(o:v=.slice none 0 0->0<m) :
  ∃g w',(Builtin.append_ #[t,f] ty #[v,x]).run Tryz.prog w=.ok g w'/\OwnC (λb=>Q b\/w.heap.size<=b) w' g a (n+m) (cs++news)/\Grew (λb=>Q b) w w'/\w'.heap.size<=w.heap.size+1:=by
 obtain⟨z,j,y⟩:=c.info;obtain⟨i,k,d⟩:=Option.map_eq_some_iff.1 j;simp only[Prod.mk.injEq]at d;obtain⟨r,s,u⟩:=d;exact ulQ ty c.und k r s u y p q l c.bytes o
theorem ukw{ops:Array Oper}{rest:List Oper}{o:Oper}{a:Act}{f:Exit->Act->World->Prop}{w:World}(r:o.guard=none)(s x:Operand)(t g:TypeId)(A:o.op=.call { callee:=.builtin .append,args:=#[s,x],argTypes:=#[t,g] })
  {Q:Nat->Prop} {v y:Value} {e:TypeId} {c i n m:Nat} {cs news:List Value} (D:a.eval s=v) (F:a.eval x=y) (p:vG t e c i) (B:OwnC Q w v c n cs) (E:Src Tryz.prog c g y m news w) (u:n+m<=16777216) (z:v=.slice none 0 0->0<m)
  (h:∀d w',OwnC (λb=>Q b\/w.heap.size<=b) w' d c (n+m) (cs++news)->Grew (λb=>Q b) w w'->w'.heap.size<=w.heap.size+1->wpList Tryz.prog ops f rest (a.put o.dst d) w'):wpList Tryz.prog ops f (o::rest) a w:=by
 refine wpList_plain r λK q=>?_
 obtain⟨d,w',C,j,k,l⟩:=ym o.type p B E u z;unfold Oper.wp execOp;simp only[A,resolve,invoke,builtin,Sem.run_bind,Sem.run_pure,Result.andThen_ok,List.map_toArray,List.map_cons,List.map_nil,D,F,C];exact q _ _ (h d w' j k l)
theorem ujp{ops:Array Oper}{o:Oper}{a:Act}{w:World}{K:Act->World->Prop}{g:Exit->Act->World->Prop}{E:Prop}(q:o.guard=none)(s x:Operand)(t f:TypeId)(z:o.op=.call { callee:=.builtin .append,args:=#[s,x],argTypes:=#[t,f] })
  {Q:Nat->Prop} {v y:Value} {e:TypeId} {c i n m:Nat} {cs news:List Value} (C:a.eval s=v) (G:a.eval x=y) (p:vG t e c i) (A:OwnC Q w v c n cs) (D:Src Tryz.prog c f y m news w) (r:n+m<=16777216) (u:v=.slice none 0 0->0<m)
  (h:∀d w',OwnC (λb=>Q b\/w.heap.size<=b) w' d c (n+m) (cs++news)->Grew (λb=>Q b) w w'->w'.heap.size<=w.heap.size+1->K (a.put o.dst d) w'):if Region.wanted o (yielded ops a.tmps)=true then Oper.wp Tryz.prog o a w K g else E:=by
 have F:Region.wanted o (yielded ops a.tmps)=true:=by simp[Region.wanted,q]
 rw[if_pos F];obtain⟨d,w',B,j,k,l⟩:=ym o.type p A D r u;unfold Oper.wp execOp;simp only[z,resolve,invoke,builtin,Sem.run_bind,Sem.run_pure,Result.andThen_ok,List.map_toArray,List.map_cons,List.map_nil,C,G,B];exact h d w' j k l
theorem elem36:vG 36 3 1 8:=⟨Tryz.underlying36,⟨_,uq2,rfl⟩,by omega⟩
theorem qw:vG 22 5 1 1:=⟨Tryz.underlying22,⟨_,usA,rfl⟩,by omega⟩
theorem ubY:vG 68 118 3 40:=⟨Tryz.underlying68,⟨_,uoS,rfl⟩,by omega⟩
theorem ulR:vG 25 73 2 48:=⟨Tryz.underlying25,⟨_,uq3,rfl⟩,by omega⟩
end Go.Proofs.YtimfigongapdnaaGreat
