import Derived.Test.YtimfigongapdnaaGreatT08
set_option linter.unusedVariables false
set_option linter.unusedSimpArgs false
set_option maxHeartbeats 40000000
set_option maxRecDepth 100000
namespace Go.Proofs.YtimfigongapdnaaGreat
section
open Go.RowKit
open M (OpD ug Gr)
structure Hv(w0 w:World)(a:Option Addr)(c:Nat)(D:List OpD)(n:Nat):Prop where
 bd:BodP (New w0 w) w (.slice a D.length c) D
 lil:Lil n D
 ne:0<D.length
def Dr(t:Tp)(R i:Nat)(w0 w:World):Prop:=RdOn t R i w0 w/\R<w0.heap.size
def Up(w0 w W:World):Prop:=∀{a:Option Addr} {c:Nat} {D:List OpD} {n:Nat},Hv w0 w a c D n->Hv w0 W a c D n
def Nxt(t:Tp)(R i:Nat)(w0 w:World)(D:List OpD)(n:Nat)(P:Ending->World->Prop):Prop :=
 ∀a c W,Dr t R i w0 W->Up w0 w W->Hv w0 W a c D n->P (.returned (.slice a D.length c)) W
variable {t:Tp} {R i n n' f:Nat} {w0 w W:World} {a a':Option Addr} {c c':Nat} {D D':List OpD} {P:Ending->World->Prop} {s:List Int} {Q:Nat->Prop}
theorem Hv.m(h:Hv w0 w a c D n)(e:n<=n'):Hv w0 w a c D n':=⟨h.bd,h.lil.mono e,h.ne⟩
theorem Dr.up(d:Dr t R i w0 w)(k:Keep (λx=>x=R) w W):Up w0 w W:=λh =>
 ⟨(h.bd.on (λb a=>k.block b a.2 (λq=>by have:=a.1;have:=d.2;omega))).wide (λx q=>⟨q.1,by have:=k.size;have:=q.2;omega⟩),h.lil,h.ne⟩
theorem Dr.q(d:Dr t R i w0 w)(k:Keep (λ_=>False) w W):Dr t R i w0 W:=⟨d.1.quiet k,d.2⟩
theorem dr0(h:RdA t R w i):Dr t R i w w:=⟨RdOn.refl h,h.lt⟩
theorem uoZ{args:Array Value}(d:Dr t R i w0 w)(j:Lil n D)(k:0<D.length)(h:Calls Tryz.prog f args w (Mk D w))(l:Nxt t R i w0 w D n P):Calls Tryz.prog f args w P:=h.mono (by
 rintro e W ⟨a,c,rfl,g,b⟩;exact l a c W (d.q b) (d.up (b.mono (λ_ q=>q.elim))) ⟨g.wide (λx q=>⟨by have:=d.1.le;have:=q.1;omega,q.2⟩),j,k⟩)
theorem jo(k x:Int)(d:Dr t R i w0 w)(a:Nxt t R i w0 w (uq k x) 1 P):Calls Tryz.prog 45 #[.int .i64 k,.int .i64 x] w P :=
 uoZ d (xB k x) (by simp[uq]) (vQ k x w) a
theorem dUn(k:Int)(d:Dr t R i w0 w)(h:Hv w0 w a c D n)(e:n<=1000)(b:Nxt t R i w0 w (unD k D) (n+1) P):Calls Tryz.prog 88 #[.int .i64 k,.slice a D.length c] w P :=
 uoZ d (qB k h.lil) (by simp[unD]) (jj _ k a c D w h.bd.ops (h.lil.small (by omega))) b
theorem ubZ(k:Int)(d:Dr t R i w0 w)(h:Hv w0 w a c D n)(b:Hv w0 w a' c' D' n')(f:n+n'<=1000)(e:Nxt t R i w0 w (uI k D D') (n+n'+1) P):Calls Tryz.prog 42 #[.int .i64 k,.slice a D.length c,.slice a' D'.length c'] w P :=
 uoZ d (yo k h.lil b.lil) (by simp[uI];omega) (jk _ _ k a a' c c' D D' w h.bd.ops (h.lil.small (by omega)) b.bd.ops (b.lil.small (by omega)) b.ne) e
theorem ub0(d:Dr t R i w0 w)(h:Ints Q .i64 w a s.length (lf s))(e:s.length<=4)(b:Nxt t R i w0 w (uF s) 1 P):Calls Tryz.prog 43 #[.slice a s.length c] w P :=
 uoZ d (jN (by omega)) (by simp[uF]) (ji _ a c s w h (by omega)) b
theorem ugO(w:World)(x y:Int)(t:TypeId):Ints (λ_=>True) .i64 (w.alloc (.cells #[.int .i64 x,.int .i64 y] t)) (some ⟨w.heap.size,0,none⟩) [x,y].length (lf [x,y]):=by
 refine .inr ⟨w.heap.size,0,rfl,trivial,λk b=>?_⟩;have a:=World.alloc_heap_new w (.cells #[.int .i64 x,.int .i64 y] t);simp only[World.cell?,a];match k,b with
 |0,_=>rfl
 |1,_=>rfl
theorem uml(x y:Int)(d:Dr t R i w0 w)(e:Nxt t R i w0 w (uF [x,y]) 1 P):Calls Tryz.prog 43 #[.slice (some ⟨w.heap.size,0,none⟩) 2 2] (w.alloc (.cells #[.int .i64 x,.int .i64 y] 3)) P :=
 ub0 (s:=[x,y]) (d.q (Keep.alloc _ _ _)) (ugO w x y 3) (by simp) λa c W b u h=>e a c W b (λh=>u (d.up (Keep.alloc _ _ _) h)) h
theorem usD(b:Int)(d:Dr t R i w0 w)(a:∀W,Dr t R i w0 W->Up w0 w W->Ints (λ_=>True) .i64 W (some ⟨w.heap.size,0,none⟩) 2 (lf [b,b])->P (.returned (.slice (some ⟨w.heap.size,0,none⟩) 2 2)) W):Calls Tryz.prog 44 #[.int .i64 b] w P :=
 (uJ b w).mono (by rintro e W ⟨rfl,rfl⟩;exact a _ (d.q (Keep.alloc _ _ _)) (d.up (Keep.alloc _ _ _)) (ugO w b b 3))
theorem uid{j:Nat}(d:Dr t R i w0 w)(h:RdOn t R j w W):Dr t R j w0 W/\Up w0 w W:=⟨⟨d.1.trans h,d.2⟩,d.up h.2⟩
theorem qA(d:Dr t R i w0 w)(a:∀W,Dr t R (t.n i) w0 W->Up w0 w W->P (.returned (.int .i64 (t.v i:Int))) W):Calls Tryz.prog 11 #[.pointer (some ⟨R,0,none⟩)] w P :=
 (uw t R i w d.1.1).mono (by rintro e W ⟨rfl,h⟩;exact a W (uid d h).1 (uid d h).2)
theorem dDs(d:Dr t R i w0 w)(g:∀a c W,Dr t R (vY t i).2 w0 W->Up w0 w W->Ints (λb=>b≠R) .i64 W a (vY t i).1.length (lf (vY t i).1)->P (.returned (.slice a (vY t i).1.length c)) W):Calls Tryz.prog 90 #[.pointer (some ⟨R,0,none⟩)] w P :=
 (uep t R i w d.1.1 _ rfl).mono (by rintro e W ⟨a,c,rfl,f,h⟩;exact g a c W (uid d h).1 (uid d h).2 f)
def DrB(t:Tp)(R:Nat)(p:List OpD×Nat)(w:World)(e:Ending)(w':World):Prop :=
 ∃a c,e=.returned (.slice a p.1.length c)/\BodP (New w w') w' (.slice a p.1.length c) p.1/\RdOn t R p.2 w w'
theorem usE{args:Array Value}{p:List OpD×Nat}(d:Dr t R i w0 w)(g:Lil n p.1)(j:0<p.1.length)(h:Calls Tryz.prog f args w (DrB t R p w))(k:Nxt t R p.2 w0 w p.1 n P):Calls Tryz.prog f args w P:=h.mono (by
 rintro e W ⟨a,c,rfl,b,h⟩;exact k a c W (uid d h).1 (uid d h).2 ⟨b.wide (λx q=>⟨by have:=d.1.le;have:=q.1;omega,q.2⟩),g,j⟩)
theorem Dr.fin{p:List OpD×Nat}(d:Dr t R i w0 w)(h:Hv w0 w a c D n)(e:(D,i)=p):DrB t R p w0 (.returned (.slice a D.length c)) w:=e▸⟨a,c,rfl,h.bd,d.1⟩
structure Ob(R:Nat)(w:World)(a:Option Addr)(D:List OpD):Prop where
 ops:OpsA (λb=>b≠R) w a D.length (df D)
 sm:xG D.length (df D)
 ne:0<D.length
theorem Dr.ob(d:Dr t R i w0 w)(h:Ob R w0 a D):Ob R w a D:=⟨h.ops.kept d.1.2 (λ_ q e=>q e),h.sm,h.ne⟩
theorem Hv.ob(h:Hv w0 w a c D n)(d:Dr t R i w0 w)(f:n<=1000):Ob R w a D:=⟨h.bd.ops.wide (λb q e=>by have:=q.1;have:=d.2;omega),h.lil.small (by omega),h.ne⟩
def Nxo(t:Tp)(R i:Nat)(w0:World)(D:List OpD)(P:Ending->World->Prop):Prop:=∀a c W,Dr t R i w0 W->BodP (New w0 W) W (.slice a D.length c) D->P (.returned (.slice a D.length c)) W
theorem usF{args:Array Value}(d:Dr t R i w0 w)(h:Calls Tryz.prog f args w (Mk D w))(j:Nxo t R i w0 D P):Calls Tryz.prog f args w P:=h.mono (by
 rintro e W ⟨a,c,rfl,b,g⟩;exact j a c W (d.q g) (b.wide (λx q=>⟨by have:=d.1.le;have:=q.1;omega,q.2⟩)))
theorem uth(k:Int)(d:Dr t R i w0 w)(h:Ob R w a D)(b:Nxo t R i w0 (unD k D) P):Calls Tryz.prog 88 #[.int .i64 k,.slice a D.length c] w P:=usF d (jj _ k a c D w h.ops h.sm) b
theorem ugP(k:Int)(d:Dr t R i w0 w)(h:Ob R w a D)(b:Ob R w a' D')(e:Nxo t R i w0 (uI k D D') P):Calls Tryz.prog 42 #[.int .i64 k,.slice a D.length c,.slice a' D'.length c'] w P:=usF d (jk _ _ k a a' c c' D D' w h.ops h.sm b.ops b.sm b.ne) e
end
open Go.RowKit
open M (OpD ug Gr)
theorem uia{d}(h:d<=5):big d<=200:=by
 match d,h with
 |0,_=>decide
 |1,_=>decide
 |2,_=>decide
 |3,_=>decide
 |4,_=>decide
 |5,_=>decide
theorem uc7 t at_ c b:∀(d:Nat) (a:Bool) (i:Nat),0<(yh t at_ c b d a i).1.length
 |0,_,i=>by rw[yh];simp[uF]
 |d+1,a,i=>by
  rw[yh];dsimp only;repeat' split
  all_goals first|(simp[uF,uq,unD,uI];done)|(simp[uF,uq,unD,uI];omega)
theorem uc8 t R at_ z y(ai:at_<=100)(aj:z<=100)(ak:y<=100):∀(d:Nat) (D:Int) (L:D=(d:Int)) (H:Bool) (i:Nat) (w:World) (p:List OpD×Nat),d<=5->RdA t R w i->yh t at_ z y d H i=p ->
  Calls Tryz.prog 87 #[.pointer (some ⟨R,0,none⟩),.int .i64 D,.int .i64 at_,.int .i64 z,.int .i64 y,.bool H] w (DrB t R p w):=by
 intro d;induction d with
 |zero =>
  intro D L H i w p hd h f;have hv:=t.v_le i;obtain rfl:D=0:=by omega
  have g:=ua f;clear L f;go_enter Tryz.func87,Tryz.ntmps87;go_wp2_with fail;refine qA (dr0 h) λw1 b _=>?_
  generalize t.v i=k at *;go_wp2_with fail;refine dDs b λa c E b _ h=>?_
  go_wp2_with fail;refine ub0 b h (vB _ _) λa c x b _ h=>?_
  go_wp2;go_ret;exact b.fin h g.out
 |succ d W =>
  intro D L H i w p hd h f;have hv:=t.v_le i;have C:=ua λ(N:Bool) (i:Nat) (w0 w:World) (P:Ending->World->Prop) (e:Dr t R i w0 w)=>usE (P:=P) e ((xS t at_ z y d N i).mono (uia (by omega))) (uc7 t at_ z y d N i) (W (D-1) (by omega) N i w _ (by omega) e.1.1 rfl)
  have ad:¬D<=0:=by omega
  have ae:D<=5:=by omega
  have ag:decide (D<=0)=false:=by simp;omega
  clear L W;go_enter Tryz.func87,Tryz.ntmps87;go_wp2_with fail;refine qA (dr0 h) λw1 b _=>?_
  rw[yh]at f;dsimp only at f;generalize t.n i=j at *;generalize t.v i=k at *;obtain⟨q,U⟩:=nm (k%20);have hq':(k:Int)%20=(q:Int):=by omega
  have al:q<20:=by omega
  rw[U]at f;clear U;by_cases b1:(q:Int)<4
  ·rw[if_pos (by omega)]at f;have g:=ua f;clear f;go_wp2_with fail;refine dDs b λa c E b _ h=>?_
   go_wp2_with fail;refine ub0 b h (vB _ _) λa c x b _ h=>?_
   go_wp2;go_ret;exact b.fin h g.out
  go_wp2_with fail;refine(ugY t R j w1 b.1.1).mono ?_;rintro e E ⟨rfl,T⟩;replace b:=(uid b T).1;have ah:=b.1.1.le;have am:=t.le;clear T;by_cases Z:t.m=j
  ·have c2:((t.m:Int)-(j:Int)==0)=true:=(by simp;omega);rw[if_pos (.inr Z)]at f;have b2':(t.m:Int)-(j:Int)=0:=(by omega);have g:=ua f;clear f;go_wp2_with fail;refine dDs b λa c E b _ h=>?_
   go_wp2_with fail;refine ub0 b h (vB _ _) λa c x b _ h=>?_
   go_wp2;go_ret;exact b.fin h g.out
  have b2':¬(t.m:Int)-(j:Int)=0:=by omega
  have b2'':((t.m:Int)-(j:Int)==0)=false:=by simp;omega
  rw[if_neg (by omega)]at f;by_cases b3:(q:Int)=4
  ·rw[if_pos (by omega)]at f;have g:=ua f;clear f;go_wp2_with fail;refine jo 0 0 b λa c x b _ h=>?_
   go_wp2;go_ret;exact b.fin h g.out
  rw[if_neg (by omega)]at f;have an:=t.v_le j;by_cases b4:(q:Int)<7
  ·rw[if_pos (by omega)]at f;cases H with
   |true =>
    simp only[if_true,Nat.sub_zero,Nat.zero_add]at f;by_cases b5:(z:Int)<=0
    ·rw[if_pos (by omega)]at f;have g:=ua f;clear f;go_wp2_with fail;refine dDs b λa c E b _ h=>?_
     go_wp2_with fail;refine ub0 b h (vB _ _) λa c x b _ h=>?_
     go_wp2;go_ret;exact b.fin h g.out
    rw[if_neg (by omega)]at f;have S:¬(z:Int)=0:=(by omega);go_wp2_with fail;refine qA b λx b _=>?_
    generalize t.v j=B at *;obtain⟨A,s⟩:=nm (B%z);have Q:(B:Int)%(z:Int)=(A:Int):=(by rw[<-s];omega);have O:A<z:=s▸Nat.mod_lt B (by omega);rw[s]at f;have g:=ua f;clear s f;go_wp2_with fail;refine jo 2 (A:Int) b λa c x b _ h=>?_
    go_wp2;go_ret;exact b.fin h g.out
   |false =>
    simp only[Bool.false_eq_true,if_false]at f;by_cases b5:(z:Int)<=(at_:Int)+1
    ·rw[if_pos (by omega)]at f;have g:=ua f;clear f;go_wp2_with fail;refine dDs b λa c E b _ h=>?_
     go_wp2_with fail;refine ub0 b h (vB _ _) λa c x b _ h=>?_
     go_wp2;go_ret;exact b.fin h g.out
    rw[if_neg (by omega)]at f;obtain⟨r,V⟩:=nm (z-(at_+1));have hr':(z:Int)-((at_:Int)+1)=(r:Int):=(by omega);have S:¬(r:Int)=0:=(by omega);rw[V]at f;go_wp2_with fail;refine qA b λx b _=>?_
    generalize t.v j=B at *;obtain⟨A,s⟩:=nm (B%r);have Q:(B:Int)%(r:Int)=(A:Int):=(by rw[<-s];omega);have O:A<r:=s▸Nat.mod_lt B (by omega);rw[s]at f;have g:=ua f;clear s f V;go_wp2_with fail;refine jo 2 ((at_:Int)+1+(A:Int)) b λa c x b _ h=>?_
    go_wp2;go_ret;exact b.fin h g.out
  rw[if_neg (by omega)]at f;by_cases G:q<9/\0<y
  ·rw[if_pos G]at f;obtain⟨G,J⟩:=G;have b6':(q:Int)<9:=(by omega);have b7':(0:Int)<(y:Int):=(by omega);have S:¬(y:Int)=0:=(by omega);go_wp2_with fail;refine qA b λx b _=>?_
   generalize t.v j=B at *;obtain⟨A,s⟩:=nm (B%y);have Q:(B:Int)%(y:Int)=(A:Int):=(by rw[<-s];omega);have O:A<y:=s▸Nat.mod_lt B J;rw[s]at f;have g:=ua f;clear s f;go_wp2_with fail;refine dDs b λa c E b _ h=>?_
   go_wp2_with fail;refine ub0 b h (vB _ _) λa c x b _ h=>?_
   go_wp2_with fail;refine jo 3 (A:Int) b λa c l b u o=>?_
   go_wp2_with fail;refine ubZ 5 b (u h) o (by omega) λa c l b u h=>?_
   go_wp2;go_ret;exact b.fin h g.out
  rw[if_neg G]at f;have J:¬((q:Int)<9/\(0:Int)<(y:Int)):=by omega
  by_cases b8:(q:Int)<13
  ·rw[if_pos (by omega)]at f;have g:=ua f;clear f;by_cases b9:(q:Int)<9;all_goals try have X:¬(0:Int)<(y:Int):=by omega
   all_goals
    clear G J;go_wp2_with fail;refine dDs b λa c E b _ h=>?_
    go_wp2_with fail;refine ub0 b h (vB _ _) λa c x b _ h=>?_
    go_wp2_with fail;refine C.out _ _ _ _ _ b λa c l b u o=>?_
    go_wp2_with fail;refine ubZ 4 b (u h) o (by omega) λa c l b u h=>?_
    go_wp2;go_ret;exact b.fin h g.out
  rw[if_neg (by omega)]at f;have b9:¬(q:Int)<9:=by omega
  clear G J;by_cases X:(q:Int)<16
  ·rw[if_pos (by omega)]at f;by_cases Y:(q:Int)=13
   ·rw[if_pos (by omega)]at f;have g:=ua f;clear f;go_wp2_with fail;refine C.out _ _ _ _ _ b λa c l b u h=>?_
    go_wp2_with fail;refine C.out _ _ _ _ _ b λa c l b u o=>?_
    go_wp2_with fail;refine ubZ 4 b (u h) o (by omega) λa c l b u h=>?_
    go_wp2;go_ret;exact b.fin h g.out
   rw[if_neg (by omega)]at f;have g:=ua f;clear f;go_wp2_with fail;refine C.out _ _ _ _ _ b λa c l b u h=>?_
   go_wp2_with fail;refine C.out _ _ _ _ _ b λa c l b u o=>?_
   go_wp2_with fail;refine ubZ 5 b (u h) o (by omega) λa c l b u h=>?_
   go_wp2;go_ret;exact b.fin h g.out
  have Y:¬(q:Int)=13:=by omega
  rw[if_neg (by omega)]at f;by_cases aa:(q:Int)<18
  ·rw[if_pos (by omega)]at f;have ao:=t.v_le (vY t j).2;go_wp2_with fail;refine dDs b λa c E b _ h=>?_
   go_wp2_with fail;refine ub0 b h (vB _ _) λa c x b _ h=>?_
   go_wp2_with fail;refine qA b λl b u=>?_
   replace h:=u h;generalize t.v (vY t j).2=kc at *;obtain⟨F,I⟩:=nm (kc%3);have hc':(kc:Int)%3=(F:Int):=(by omega);rw[I]at f;obtain rfl|rfl|rfl:F=0\/F=1\/F=2:=(by omega);all_goals have g:=ua f
   all_goals clear f I u
   ·go_wp2_with fail;refine dUn 6 b h (by omega) λa c l b u h=>?_
    go_wp2;go_ret;exact b.fin h g.out
   ·go_wp2_with fail;refine C.out _ _ _ _ _ b λa c l b u o=>?_
    go_wp2_with fail;refine ubZ 4 b (u h) o (by omega) λa c l b u h=>?_
    go_wp2_with fail;refine dUn 6 b h (by omega) λa c l b u h=>?_
    go_wp2;go_ret;exact b.fin h g.out
   go_wp2_with fail;refine C.out _ _ _ _ _ b λa c l b u o=>?_
   replace h:=u h;go_wp2_with fail;refine dUn 7 b o (by omega) λa c l b u o=>?_
   go_wp2_with fail;refine ubZ 4 b o (u h) (by omega) λa c l b u h=>?_
   go_wp2_with fail;refine dUn 6 b h (by omega) λa c l b u h=>?_
   go_wp2;go_ret;exact b.fin h g.out
  rw[if_neg (by omega)]at f;by_cases ab:(q:Int)=18
  ·rw[if_pos (by omega)]at f;have g:=ua f;clear f;go_wp2_with fail;refine C.out _ _ _ _ _ b λa c l b u o=>?_
   go_wp2_with fail;refine dUn 7 b o (by omega) λa c l b u h=>?_
   go_wp2;go_ret;exact b.fin h g.out
  rw[if_neg (by omega)]at f;go_wp2_with fail;refine qA b λl b u=>?_
  generalize t.v j=kc at *;obtain⟨F,I⟩:=nm (kc%4);have hc':(kc:Int)%4=(F:Int):=by omega
  rw[I]at f;clear u I;by_cases ac:(0:Int)<(F:Int)
  ·rw[if_pos (by omega)]at f;have g:=ua f;clear f;go_wp2_with fail;refine dDs b λa c E b _ h=>?_
   go_wp2_with fail;refine ub0 b h (vB _ _) λa c x b _ h=>?_
   go_wp2_with fail;refine C.out _ _ _ _ _ b λa c l b u o=>?_
   replace h:=u h;go_wp2_with fail;refine ubZ 4 b h o (by omega) λa c l b u o=>?_
   go_wp2_with fail;refine ubZ 5 b (u h) o (by omega) λa c l b u h=>?_
   go_wp2_with fail;refine dUn 6 b h (by omega) λa c l b u h=>?_
   go_wp2;go_ret;exact b.fin h g.out
  rw[if_neg (by omega)]at f;have g:=ua f;clear f;go_wp2_with fail;refine C.out _ _ _ _ _ b λa c l b u h=>?_
  go_wp2_with fail;refine dUn 6 b h (by omega) λa c l b u h=>?_
  go_wp2;go_ret;exact b.fin h g.out
theorem uqB{t:Tp}{R i:Nat}{w0 w:World}{P:Ending->World->Prop}(at_ b a d:Nat)(f:Int)(g:f=(d:Int))(c:Bool)(h:at_<=100/\b<=100/\a<=100/\d<=5)(e:Dr t R i w0 w)(j:Nxt t R (yh t at_ b a d c i).2 w0 w (yh t at_ b a d c i).1 200 P) :
  Calls Tryz.prog 87 #[.pointer (some ⟨R,0,none⟩),.int .i64 f,.int .i64 at_,.int .i64 b,.int .i64 a,.bool c] w P :=
 usE e ((xS t at_ b a d c i).mono (uia h.2.2.2)) (uc7 t at_ b a d c i) (uc8 t R at_ b a h.1 h.2.1 h.2.2.1 d f g c i w _ h.2.2.2 e.1.1 rfl) j
theorem xA{Q w a b n c cs}(h:OwnC Q w (.slice a n c) b n cs):n<=c:=by
 rcases h with⟨e,d,_⟩|⟨g,cap,e,l,f,i,j,k⟩
 ·omega
 injection e with _ _ e3;omega
theorem uca{α:Type}(f:α->List Value)(k:Nat)(h:∀x,(f x).length=k):∀(l:List α) (j:Nat),(l.take j).flatMap f=(l.flatMap f).take (j*k)
 |[],j=>by simp
 |x::l,0=>by simp
 |x::l,j+1=>by
  rw[List.take_succ_cons,List.flatMap_cons,List.flatMap_cons,uca f k h l j,List.take_append,h x,show(j+1)*k-k=j*k by rw[Nat.add_mul];omega,List.take_of_length_le (l:=f x) (by rw[h x,Nat.add_mul];omega)]
theorem kz{Q w a b n c cs}(h:OwnC Q w (.slice a n c) b n cs){j}(p:j<=n):OwnC Q w (.slice a j c) b j (cs.take (j*b)):=by
 rcases h with⟨e,d,f⟩|⟨g,cap,e,q,k,r,l,m⟩
 ·obtain rfl:j=0:=by omega
  subst d;exact .inl ⟨e,rfl,by rw[f];simp⟩
 obtain⟨rfl,rfl⟩:a=some ⟨g,0,none⟩/\c=cap:=by injection e with d f e3;exact⟨d,e3⟩
 have s:j*b<=n*b:=Nat.mul_le_mul_right _ p;refine .inr ⟨g,c,rfl,q,by rw[List.length_take,k];omega,by omega,λi o=>?_,m⟩;rw[List.length_take]at o;rw[l i (by omega),List.getElem?_take_of_lt (by omega)]
theorem uch{P:Program}{ops:Array Oper}{o:Oper}{a:Act}{w:World}{K:Act->World->Prop}{c:Exit->Act->World->Prop}{E:Prop}{f:FuncId}(d:∀args w,(callFunc f args).run P w=.ok (.enter f args) w)(g:o.guard=none)(b:Operand)(n:TypeId)
  (j:o.op=.call { callee:=.value (.func f),args:=#[b],argTypes:=#[n] }) {y1:Value} (m:a.eval b=y1) (h:Calls P f #[y1] w (λe w'=>∃u,e=.returned u/\K (a.put o.dst u) w')):if Region.wanted o (yielded ops a.tmps)=true then Oper.wp P o a w K c else E:=by
 have l:Region.wanted o (yielded ops a.tmps)=true:=by simp[Region.wanted,g]
 rw[if_pos l];have k:(execOp a.eval o).run P w=.ok (.enter f #[y1]) w:=by
  have e:a.eval (.func f)=.func (.func f) #[] #[]:=rfl;unfold execOp;simp only[j,resolve,invoke,Deferred.ofValue,Sem.run_bind,Sem.run_pure,Result.andThen_ok,List.map_toArray,List.map_cons,List.map_nil,m,e];exact d #[y1] w
 unfold Oper.wp;rw[k];refine Calls.mono h ?_;rintro e w' ⟨u,rfl,i⟩;exact i
theorem yk{P:Program}{ops:Array Oper}{o:Oper}{a:Act}{w:World}{K:Act->World->Prop}{d:Exit->Act->World->Prop}{E:Prop}{f:FuncId}(g:∀args w,(callFunc f args).run P w=.ok (.enter f args) w)(i:o.guard=none)(b c:Operand)(q r:TypeId)
  (k:o.op=.call { callee:=.value (.func f),args:=#[b,c],argTypes:=#[q,r] }) {y1 y2:Value} (n:a.eval b=y1) (p:a.eval c=y2) (h:Calls P f #[y1,y2] w (λe w'=>∃u,e=.returned u/\K (a.put o.dst u) w')):if Region.wanted o (yielded ops a.tmps)=true then Oper.wp P o a w K d else E:=by
 have m:Region.wanted o (yielded ops a.tmps)=true:=by simp[Region.wanted,i]
 rw[if_pos m];have l:(execOp a.eval o).run P w=.ok (.enter f #[y1,y2]) w:=by
  have e:a.eval (.func f)=.func (.func f) #[] #[]:=rfl;unfold execOp;simp only[k,resolve,invoke,Deferred.ofValue,Sem.run_bind,Sem.run_pure,Result.andThen_ok,List.map_toArray,List.map_cons,List.map_nil,n,p,e];exact g #[y1,y2] w
 unfold Oper.wp;rw[l];refine Calls.mono h ?_;rintro e w' ⟨u,rfl,j⟩;exact j
theorem xu{P:Program}{ops:Array Oper}{o:Oper}{a:Act}{w:World}{K:Act->World->Prop}{g:Exit->Act->World->Prop}{E:Prop}{f:FuncId}(i:∀args w,(callFunc f args).run P w=.ok (.enter f args) w)(j:o.guard=none)(b c d:Operand)(s t v:TypeId)
  (l:o.op=.call { callee:=.value (.func f),args:=#[b,c,d],argTypes:=#[s,t,v] }) {y1 y2 y3:Value} (p:a.eval b=y1) (q:a.eval c=y2) (r:a.eval d=y3) (h:Calls P f #[y1,y2,y3] w (λe w'=>∃u,e=.returned u/\K (a.put o.dst u) w')):if Region.wanted o (yielded ops a.tmps)=true then Oper.wp P o a w K g else E:=by
 have n:Region.wanted o (yielded ops a.tmps)=true:=by simp[Region.wanted,j]
 rw[if_pos n];have m:(execOp a.eval o).run P w=.ok (.enter f #[y1,y2,y3]) w:=by
  have e:a.eval (.func f)=.func (.func f) #[] #[]:=rfl;unfold execOp;simp only[l,resolve,invoke,Deferred.ofValue,Sem.run_bind,Sem.run_pure,Result.andThen_ok,List.map_toArray,List.map_cons,List.map_nil,p,q,r,e];exact i #[y1,y2,y3] w
 unfold Oper.wp;rw[m];refine Calls.mono h ?_;rintro e w' ⟨u,rfl,k⟩;exact k
theorem BodP.later{w w1 w':World}{v:Value}{D:List OpD}{C:Nat->Prop}(h:BodP (New w w1) w1 v D)(k:Keep C w1 w')(c:∀b,C b->b<w.heap.size:=by intro b q;exact q.elim):BodP (New w w1) w' v D :=
 h.on (λb a=>k.block b a.2 (λq=>by have:=c b q;have:=a.1;omega))
end Go.Proofs.YtimfigongapdnaaGreat
