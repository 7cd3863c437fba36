import Derived.Test.YtpghlcdkfldlpaaGreatT01
import Derived.Lib.BytesEntry
set_option linter.unusedVariables false
set_option linter.unusedSimpArgs false
set_option maxHeartbeats 40000000
set_option maxRecDepth 100000
namespace Go.Proofs.YtpghlcdkfldlpaaGreat
open Go.RowKit
theorem uj7(n:Nat)(h:n%2=1):((n:Int)%2 != 0)=true:=by
 have:(n:Int)%2=1:=by omega
 rw[this];decide
theorem uhE(n:Nat)(h:n%2=0):((n:Int)%2 != 0)=false:=by
 have:(n:Int)%2=0:=by omega
 rw[this];decide
theorem urb(n:Nat)(h:n%2=1):((n:Int)%2==1)=true:=by
 have:(n:Int)%2=1:=by omega
 rw[this];decide
theorem urc(n:Nat)(h:n%2=0):((n:Int)%2==1)=false:=by
 have:(n:Int)%2=0:=by omega
 rw[this];decide
theorem urd(n:Nat)(h:n%2=0):((n:Int)%2==0)=true:=by
 have:(n:Int)%2=0:=by omega
 rw[this];decide
theorem ure(n:Nat)(h:n%2=1):((n:Int)%2==0)=false:=by
 have:(n:Int)%2=1:=by omega
 rw[this];decide
theorem uba S k:M.least S (k+1)=S (2*k+1)+2:=by
 unfold M.least;rw[if_neg (by omega),show 2*(k+1)-1=2*k+1 by omega]
theorem yL{k a b}(h:a=b):Value.int k a=.int k b:=by rw[h]
theorem uli n S k(h:2*k=n)(a:∀j,j<k->M.PairOK S j):M.Canon n S :=
 ⟨by omega,λi b=>(M.pairs_canon S k).1 a i (by omega)⟩
theorem ub7 n S k(h:2*k<n)(a:¬M.PairOK S k):¬M.Canon n S:=λq =>
 a ((M.pairs_canon S (n / 2)).2 (λi b=>q.2 i (by omega)) k (by have:=q.1;omega))
def urf(w:World)(n:Nat)(S:Nat->Int)(l i:Value)(wr:World):Prop :=
 ∃k d:Nat,2*k<=n/\l=.int .i64 (M.least S k)/\i=.int .i64 ((2*k:Nat):Int)/\wr=w.drewN d/\(∀j,j<k->M.PairOK S j)/\0<=M.least S k/\M.least S k<=257
theorem ucL Q a n c S w(f:Ints Q .i64 w a n S)(E:n<=1048576) :
  Calls Tryz.prog 144 #[.slice a n c] w (xS (M.Canon n S) w):=by
 rcases(Nat.mod_two_eq_zero_or_one n).symm with h|h
 ·have t:=uj7 n h;go_enter Tryz.func144,Tryz.ntmps144;go_wp2;go_ret;exact⟨⟨false,rfl,uJ λq=>by have:=q.1;omega⟩,Below.refl _ _⟩
 have t:=uhE n h;go_enter Tryz.func144,Tryz.ntmps144;go_wp2;go_loopw [3,4] (λl i wr=>urf w n S l i wr) (λl i _=>n-(intOf i).toNat)
 case atStart=>exact⟨0,0,by omega,rfl,rfl,rfl,λj o=>absurd o (Nat.not_lt_zero _),by simp[M.least],by simp[M.least]⟩
 case round =>
  obtain⟨k,d,B,rfl,rfl,rfl,s,C,D⟩:=hrel;have m:=ua s;by_cases g:2*k<n
  ·rcases f with y|⟨b,off,rfl,F,f⟩
   ·omega
   have z:=f (2*k) g;have A:=f (2*k+1) (by omega);have G:((2*k+1:Nat):Int)=((2*k:Nat):Int)+1:=(by omega);have H:((2*k:Nat):Int)<(n:Int):=(by omega);have I:((2*k:Nat):Int)+1<(n:Int):=(by omega);by_cases u:S (2*k)<M.least S k
   ·go_wp2_with fail;go_quiet (fail);go_wp2;go_ret;exact⟨⟨false,rfl,uJ (ub7 n S k g λq=>by have:=q.1;omega)⟩,by first|exact below_drewN (Below.refl _ _) _|exact below_drewN (below_drewN (Below.refl _ _) _) _|exact below_drewN (below_drewN (below_drewN (Below.refl _ _) _) _) _⟩
   by_cases v:S (2*k+1)<S (2*k)
   ·go_wp2_with fail;go_quiet (fail);go_wp2;go_ret;exact⟨⟨false,rfl,uJ (ub7 n S k g λq=>by have:=q.2.1;omega)⟩,by first|exact below_drewN (Below.refl _ _) _|exact below_drewN (below_drewN (Below.refl _ _) _) _|exact below_drewN (below_drewN (below_drewN (Below.refl _ _) _) _) _⟩
   by_cases x:255<S (2*k+1)
   ·go_wp2_with fail;go_quiet (fail);go_wp2;go_ret;exact⟨⟨false,rfl,uJ (ub7 n S k g λq=>by have:=q.2.2;omega)⟩,by first|exact below_drewN (Below.refl _ _) _|exact below_drewN (below_drewN (Below.refl _ _) _) _|exact below_drewN (below_drewN (below_drewN (Below.refl _ _) _) _) _⟩
   go_wp2_with fail;go_quiet (fail);go_wp2;go_roundw
   case rel =>
    refine⟨k+1,_,by omega,yL (uba S k).symm,by go_num,rfl,λj o=>?_,?_,?_⟩
    ·by_cases e:j=k
     ·subst e;exact⟨by omega,by omega,by omega⟩
     exact m j (by omega)
    ·rw[uba];omega
    rw[uba];omega
   case measure=>simp[intOf];omega
  have r:2*k=n:=by omega
  have p:=ua r;have J:¬((2*k:Nat):Int)<(n:Int):=by omega
  go_wp2;go_ret;exact⟨⟨true,rfl,xI (uli n S k p m)⟩,by first|exact below_drewN (Below.refl _ _) _|exact below_drewN (below_drewN (Below.refl _ _) _) _|exact below_drewN (below_drewN (below_drewN (Below.refl _ _) _) _) _⟩
def urg(w:World)(n:Nat)(S:Nat->Int)(i:Value)(wr:World):Prop :=
 ∃k d:Nat,k<=n/\i=.int .i64 (k:Int)/\wr=w.drewN d/\∀j,j<k->M.CanAt S j
theorem uaA{n S k}(a:k<n)(h:¬M.CanAt S k):¬M.Canon n S:=λq=>h (q.2 k a)
theorem jq Q a n c S w(r:Ints Q .i64 w a n S)(O:n<=1048576) :
  Calls Tryz.prog 98 #[.slice a n c] w (xS (M.Canon n S) w):=by
 rcases(Nat.mod_two_eq_zero_or_one n).symm with s|s
 ·have t:=uj7 n s;go_enter Tryz.func98,Tryz.ntmps98;go_wp2;go_ret;exact⟨⟨false,rfl,uJ λq=>by have:=q.1;omega⟩,Below.refl _ _⟩
 have t:=uhE n s;go_enter Tryz.func98,Tryz.ntmps98;go_wp2;go_loopw [3] (λi wr=>urg w n S i wr) (λi _=>n-(intOf i).toNat)
 case atStart=>exact⟨0,0,by omega,rfl,rfl,λj u=>absurd u (Nat.not_lt_zero _)⟩
 case round =>
  obtain⟨k,d,J,rfl,rfl,y⟩:=hrel;have o:=ua y;by_cases m:k<n
  ·rcases r with H|⟨b,off,rfl,P,r⟩
   ·omega
   have z:=r k m;have R:(k:Int)<(n:Int):=(by omega);by_cases E:S k<0
   ·go_wp2;go_ret;exact⟨⟨false,rfl,uJ (uaA m λq=>by have:=q.1;omega)⟩,by first|exact below_drewN (Below.refl _ _) _|exact below_drewN (below_drewN (Below.refl _ _) _) _|exact below_drewN (below_drewN (below_drewN (Below.refl _ _) _) _) _⟩
   by_cases F:255<S k
   ·go_wp2;go_ret;exact⟨⟨false,rfl,uJ (uaA m λq=>by have:=q.2.1;omega)⟩,by first|exact below_drewN (Below.refl _ _) _|exact below_drewN (below_drewN (Below.refl _ _) _) _|exact below_drewN (below_drewN (below_drewN (Below.refl _ _) _) _) _⟩
   by_cases A:k=0
   ·subst A;rw[Nat.add_zero]at z;go_wp2_with fail;go_quiet (fail);go_wp2_with fail;go_quiet (fail);go_wp2;go_roundw
    case rel =>
     refine⟨1,_,by omega,by go_num,rfl,λj u=>?_⟩;obtain rfl:j=0:=(by omega);exact⟨by omega,by omega,λh=>by omega,λh=>by omega⟩
    case measure=>simp[intOf];omega
   obtain⟨p,x⟩:∃p,k=p+1:=⟨k-1,by omega⟩;have g:=ua x;have N:(0:Int)<(k:Int):=(by omega);have L:0<k:=(by omega);have I:=r p (by have:=g;omega);have v:=o p (by have:=g;omega);have D:=v.1;have b1:=v.2.1;clear v;have G:(k:Int)-1=(p:Int):=(by omega);clear x;rcases Nat.mod_two_eq_zero_or_one k with f|f
   ·have C:=urc k f;have B:=urd k f;by_cases l:S k<S p+2
    ·go_wp2_with fail;go_quiet (fail);go_wp2_with fail;go_quiet (fail);go_wp2;go_ret;exact⟨⟨false,rfl,uJ (uaA m λq=>by have:=q.2.2.2 ⟨by omega,f⟩;rw[g.out]at this l;simp at this;omega)⟩,by first|exact below_drewN (Below.refl _ _) _|exact below_drewN (below_drewN (Below.refl _ _) _) _|exact below_drewN (below_drewN (below_drewN (Below.refl _ _) _) _) _⟩
    go_wp2_with fail;go_quiet (fail);go_wp2_with fail;go_quiet (fail);go_wp2;go_roundw
    case rel =>
     refine⟨k+1,_,by omega,by go_num,rfl,λj u=>?_⟩;by_cases e:j=k
     ·subst j;exact⟨by omega,by omega,λh=>by omega,λh=>by rw[g.out]at l ⊢;simp;omega⟩
     exact o j (by omega)
    case measure=>simp[intOf];omega
   have C:=urb k f;have B:=ure k f;by_cases l:S k<S p
   ·go_wp2_with fail;go_quiet (fail);go_wp2;go_ret;exact⟨⟨false,rfl,uJ (uaA m λq=>by have:=q.2.2.1 f;rw[g.out]at this l;simp at this;omega)⟩,by first|exact below_drewN (Below.refl _ _) _|exact below_drewN (below_drewN (Below.refl _ _) _) _|exact below_drewN (below_drewN (below_drewN (Below.refl _ _) _) _) _⟩
   go_wp2_with fail;go_quiet (fail);go_wp2_with fail;go_quiet (fail);go_wp2;go_roundw
   case rel =>
    refine⟨k+1,_,by omega,by go_num,rfl,λj u=>?_⟩;by_cases e:j=k
    ·subst j;exact⟨by omega,by omega,λh=>by rw[g.out]at l ⊢;simp;omega,λh=>by omega⟩
    exact o j (by omega)
   case measure=>simp[intOf];omega
  obtain rfl:k=n:=by omega
  go_wp2;go_ret;exact⟨⟨true,rfl,xI ⟨s,o⟩⟩,by first|exact below_drewN (Below.refl _ _) _|exact below_drewN (below_drewN (Below.refl _ _) _) _|exact below_drewN (below_drewN (below_drewN (Below.refl _ _) _) _) _⟩
open M (OpD ue Gr)
theorem vE Q a(n c l:Nat)B w(o:OpsA Q w a n B)(D:n<=1048576) :
  Calls Tryz.prog 66 #[.slice a n c,.int .i64 l] w (Says (M.Throws n B l) w):=by
 go_enter Tryz.func66,Tryz.ntmps66;go_wp2;go_loopw [5] (λi wr=>∃k:Nat,k<=n/\i=.int .i64 k/\wr=w/\∀j,j<k->¬((B j).kind=3/\(B j).arg=l)) (λi _=>n-(intOf i).toNat)
 case atStart=>exact⟨0,Nat.zero_le _,rfl,rfl,λj p=>absurd p (Nat.not_lt_zero _)⟩
 case round =>
  obtain⟨k,C,rfl,rfl,u⟩:=hrel;have m:=ua u;by_cases r:k<n
  ·rcases o with A|⟨b,off,rfl,E,o⟩
   ·omega
   obtain⟨x,⟨G,H,y,F⟩,z⟩:=o k r;by_cases d:(B k).kind=3
   ·have s:((B k).kind==3)=true:=(by simp[d]);have g:=ua d;by_cases f:(B k).arg=l
    ·have t:((B k).arg==(l:Int))=true:=(by simp[f]);have h:=ua f;go_wp2;go_ret;exact⟨⟨true,rfl,xI ⟨k,r,g,h⟩⟩,rfl⟩
    have t:((B k).arg==(l:Int))=false:=(by simp[f]);have h:=ua f;go_wp2;go_roundw
    case rel=>exact⟨k+1,by omega,by go_num,by trivial,λj p=>if e:j=k then e▸λq=>h q.2 else m j (by omega)⟩
    case measure=>simp[intOf];omega
   have s:((B k).kind==3)=false:=(by simp[d]);have g:=ua d;go_wp2;go_roundw
   case rel=>exact⟨k+1,by omega,by go_num,by trivial,λj p=>if e:j=k then e▸λq=>g q.1 else m j (by omega)⟩
   case measure=>simp[intOf];omega
  obtain rfl:k=n:=by omega
  go_wp2;go_ret;exact⟨⟨false,rfl,uJ λ⟨i,v,q⟩=>m i v q⟩,rfl⟩
def upO(w:World)(n:Nat)(B:Nat->OpD)(d i:Value)(wr:World):Prop :=
 ∃j:Nat,j<=n/\d=.int .i64 (M.need B n j)/\i=.int .i64 ((n:Int)-1-j)/\wr=w/\∀t,t<j->M.need B n t≠0
theorem uga Q a n c B w(k:OpsA Q w a n B)(H:n<=1048576) :
  Calls Tryz.prog 99 #[.slice a n c] w (Says (M.Shape n B) w):=by
 go_enter Tryz.func99,Tryz.ntmps99;go_wp2;go_loopw [3,4] (λd i wr=>upO w n B d i wr) (λd i _=>(intOf i+1).toNat)
 case atStart=>exact⟨0,Nat.zero_le _,rfl,by simp,rfl,λj o=>absurd o (Nat.not_lt_zero _)⟩
 case round =>
  obtain⟨j,o,rfl,rfl,rfl,m⟩:=hrel;have A:=M.need_bd B n j m;have l:=ua m;by_cases v:j<n
  ·rcases k with F|⟨b,off,rfl,J,k⟩
   ·omega
   obtain⟨p,x⟩:=nm (n-1-j);have r:=ua x;have h:(n:Int)-1-j=p:=(by omega);have y:p<n:=(by omega);have I:(p:Int)<n:=(by omega);rw[h];obtain⟨C,⟨P,R,D,L⟩,E⟩:=k p y;have z:M.need B n (j+1)=M.need B n j+(M.ar (B p).kind-1):=(by rw[M.need,r.out]);have G:=M.ar_bd (B p).kind;have s:=ua z;by_cases f:M.need B n j=0
   ·have u:(M.need B n j==0)=true:=(by simp[f]);have g:=ua f;go_wp2;go_ret;exact⟨⟨false,rfl,uJ λq=>((M.shape_iff n B).2 q).1 j v g⟩,rfl⟩
   have u:(M.need B n j==0)=false:=(by simp[f]);have g:=ua f;go_wp2_with (go_at_call 122;refine(ucC _ _).mono ?_;rintro e W ⟨rfl,O⟩;subst W);go_roundw
   case rel=>exact⟨j+1,by omega,yL s.symm,yL (by omega),by trivial,λt N=>if e:t=j then e▸g.out else l t (by omega)⟩
   case measure=>simp[intOf]<;>omega
  obtain rfl:j=n:=by omega
  have h:(j:Int)-1-j = -1:=by omega
  rw[h];go_wp2;go_ret;refine⟨⟨_,rfl,?_⟩,rfl⟩;rw[<-M.shape_iff];simp only[beq_iff_eq];exact⟨λq=>⟨l,q⟩,λq=>q.2⟩
theorem ueL nr e b S a:M.ElemOK nr e ⟨1,b,S,a⟩↔a=0/\M.Canon b S:=by
 unfold M.ElemOK M.most;constructor
 ·rintro⟨_,_,h,_,c,d⟩;exact⟨by simp at c d;omega,h rfl⟩
 rintro⟨rfl,h⟩;refine⟨?_,?_,λ_=>h,λq=>absurd rfl q,?_,?_⟩<;>simp
theorem ugJ nr c b S a:M.ElemOK nr c ⟨2,b,S,a⟩↔0<=a/\a<nr/\b=0:=by
 unfold M.ElemOK M.most;simp;omega
theorem ueM nr b c S a:M.ElemOK nr b ⟨3,c,S,a⟩↔0<=a/\a<b/\c=0:=by
 unfold M.ElemOK M.most;simp;omega
theorem ugK nr d c S a b(h:a=0\/a=4\/a=5\/a=6\/a=7):M.ElemOK nr d ⟨a,c,S,b⟩↔b=0/\c=0:=by
 unfold M.ElemOK M.most;rcases h with rfl|rfl|rfl|rfl|rfl<;>(simp;omega)
theorem ul7 nr e f S a b(h:a<0\/7<a):¬M.ElemOK nr e ⟨a,f,S,b⟩:=λq=>by
 have c:=q.1;have d:=q.2.1;simp at c d;omega
theorem udo(k:Int):k=1\/k=2\/k=3\/(k=0\/k=4\/k=5\/k=6\/k=7)\/(k<0\/7<k):=by omega
theorem xz Q y la f nr z d lc b k S a c w(x:Ints Q .i64 w f b S)(H:nr<=1048576)(I:d<=1048576)(u:b<=1048576) :
  Calls Tryz.prog 131 #[.agg #[.slice y nr z,.slice la d lc],.agg #[.int .i64 a,.slice f b k,.int .i64 c]] w (xS (M.ElemOK nr d ⟨a,b,S,c⟩) w):=by
 rcases udo a with rfl|rfl|rfl|h|h
 ·by_cases g:c=0
  ·subst g;have v:∀o p,Ints Q .i64 ((w.alloc o).alloc p) f b S:=λo p=>x.later (vb w o p)
   go_enter Tryz.func131,Tryz.ntmps131;go_wp2_with (go_at_call 144;refine(ucL Q f b k S _ (v _ _) u).mono ?_;rintro e W ⟨⟨r,rfl,j⟩,i⟩;have s:Hid _:=j;have m:Hid _:=i;clear j i);go_ret;exact⟨⟨_,rfl,s.trans ((ueL nr d b S 0).trans ⟨λq=>q.2,λq=>⟨rfl,q⟩⟩).symm⟩,ud (vb w _ _) m⟩
  have t:(c==0)=false:=by simp[g]
  have l:=ua g;go_enter Tryz.func131,Tryz.ntmps131;go_wp2;go_ret;exact⟨⟨false,rfl,uJ λq=>l ((ueL nr d b S c).1 q).1⟩,vb w _ _⟩
 ·go_enter Tryz.func131,Tryz.ntmps131;go_wp2;all_goals go_ret
  all_goals exact⟨⟨_,rfl,by rw[ugJ];simp<;>omega⟩,vb w _ _⟩
 ·go_enter Tryz.func131,Tryz.ntmps131;go_wp2;all_goals go_ret
  all_goals exact⟨⟨_,rfl,by rw[ueM];simp<;>omega⟩,vb w _ _⟩
 ·rcases h with rfl|rfl|rfl|rfl|rfl;all_goals (
   go_enter Tryz.func131,Tryz.ntmps131;go_wp2;all_goals go_ret
   all_goals exact⟨⟨_,rfl,by rw[ugK _ _ _ _ _ _ (by omega)];simp<;>omega⟩,vb w _ _⟩)
 have n:Hid (a<0\/7<a):=h;have t:(a==0)=false:=by simp;omega
 have A:(a==1)=false:=by simp;omega
 have B:(a==2)=false:=by simp;omega
 have C:(a==3)=false:=by simp;omega
 have D:(a==4)=false:=by simp;omega
 have E:(a==5)=false:=by simp;omega
 have F:(a==6)=false:=by simp;omega
 have G:(a==7)=false:=by simp;omega
 go_enter Tryz.func131,Tryz.ntmps131;go_wp2;go_ret;exact⟨⟨false,rfl,uJ (ul7 _ _ _ _ _ _ n)⟩,vb w _ _⟩
def urG(W1:World)(n nr a:Nat)(B:Nat->OpD)(d i:Value)(wr:World):Prop :=
 ∃k:Nat,k<=n/\d=.int .i64 (M.dep B k)/\i=.int .i64 (k:Int)/\Below W1.heap.size W1 wr/\∀j,j<k->M.ElemOK nr a (B j)/\M.ar (B j).kind<=M.dep B j
def xV(n:Nat)(B:Nat->OpD):Prop:=n<=1048576/\∀i,i<n->(B i).sl<=1048576
theorem ul8 nr b n B(h:∀j,j<n->M.ElemOK nr b (B j)/\M.ar (B j).kind<=M.dep B j):M.BodyOK nr b n B↔M.dep B n=1 :=
 ⟨λq=>q.2.2,λq=>⟨λi a=>(h i a).1,λi a=>(h i a).2,q⟩⟩
theorem yI Q m la a nr o f lc n c B w(s:OpsA Q w a n B)(C:nr<=1048576)(D:f<=1048576)(U:xV n B) :
  Calls Tryz.prog 105 #[.agg #[.slice m nr o,.slice la f lc],.slice a n c] w (xS (M.BodyOK nr f n B) w):=by
 obtain⟨hn,u⟩:=U;have N:=ua s;have P:=ua u;go_enter Tryz.func105,Tryz.ntmps105;go_wp2;go_loopw [5,10] (λd i wr=>urG (w.alloc (.cells #[.slice m nr o,.slice la f lc] 28)) n nr f B d i wr) (λd i _=>n-(intOf i).toNat)
 case atStart=>exact⟨0,Nat.zero_le _,rfl,rfl,Below.refl _ _,λj x=>absurd x (Nat.not_lt_zero _)⟩
 case round =>
  obtain⟨k,V,rfl,rfl,t,J⟩:=hrel;have Z:=M.dep_bd B n k V (λj x=>(J j x).2);have H:=ua J;have E:=ud (uf w _) t;by_cases y:k<n
  ·have s:=N.later E;rcases s with h0|⟨b,off,rfl,hq,s⟩
   ·omega
   obtain⟨S,⟨F,G,c1,X⟩,c2⟩:=s k y;have u:=P k y;have g0:wr.cell? ⟨w.heap.size,0,none⟩=some (.slice m nr o):=uc (by simp) t;have g1:wr.cell? ⟨w.heap.size,1,none⟩=some (.slice la f lc):=uc (by simp) t;have ac:w.heap.size<wr.heap.size:=(by have:=t.size;simp at this;omega);have ab:=ub S;have aa:=M.ar_bd (B k).kind;have R:Hid (M.dep B (k+1)=M.dep B k+(1-M.ar (B k).kind)):=rfl;have I:=ua E;have O:=t;have z:=ua X;by_cases L:M.ElemOK nr f (B k)
   ·have l:Hid (M.ElemOK nr f (B k)):=L;by_cases hd:M.dep B k<M.ar (B k).kind
    ·go_wp2_with (first|(go_at_call 131;refine(xz Q m la F nr o f lc (B k).sl G (B k).set (B k).kind (B k).arg _ (z.later (uf wr _)) C D u).mono ?_;rintro e W ⟨⟨r,rfl,h⟩,g⟩;obtain rfl:r=true:=h.2 l;have T:=(uc (a:=⟨wr.heap.size,0,none⟩) (v:=.int .i64 (B k).kind) (by simp) g);have p:Hid _:=g;clear h g)|(go_at_call 132;refine(kW _ _).mono ?_;rintro e A ⟨rfl,Y⟩;subst A));go_ret;exact⟨⟨false,rfl,uJ λq=>by have:=q.2.1 k y;omega⟩,ud I (ud (uf wr _) p)⟩
    go_wp2_with (first|(go_at_call 131;refine(xz Q m la F nr o f lc (B k).sl G (B k).set (B k).kind (B k).arg _ (z.later (uf wr _)) C D u).mono ?_;rintro e W ⟨⟨r,rfl,h⟩,g⟩;obtain rfl:r=true:=h.2 l;have T:=(uc (a:=⟨wr.heap.size,0,none⟩) (v:=.int .i64 (B k).kind) (by simp) g);have p:Hid _:=g;clear h g)|(go_at_call 132;refine(kW _ _).mono ?_;rintro e A ⟨rfl,Y⟩;subst A));go_roundw
    case rel=>exact⟨k+1,by omega,yL R.symm,by go_num,ud O (ud (uf wr _) p),λj x=>if e:j=k then e▸⟨l,by omega⟩ else H j (by omega)⟩
    case measure=>simp[intOf];omega
   have l:Hid (¬M.ElemOK nr f (B k)):=L;go_wp2_with fail;refine(xz Q m la F nr o f lc (B k).sl G (B k).set (B k).kind (B k).arg _ (z.later (uf wr _)) C D u).mono ?_;rintro e W ⟨⟨r,rfl,h⟩,g⟩;obtain rfl:r=false:=(by { cases r;rfl;exact absurd (h.1 rfl) l });have p:=g;go_wp2;go_ret;exact⟨⟨false,rfl,uJ λq=>l (q.1 k y)⟩,ud I (ud (uf wr _) p)⟩
  obtain rfl:k=n:=by omega
  go_wp2;go_ret;exact⟨⟨_,rfl,by rw[ul8 nr f _ B H.out];simp⟩,E⟩
def urn(w:World)(n nr a:Nat)(B:Nat->OpD)(i:Value)(wr:World):Prop :=
 ∃k:Nat,k<=n/\i=.int .i64 (k:Int)/\Below w.heap.size w wr/\∀j,j<k->M.ElemOK nr a (B j)
theorem uhO nr a n B(h:∀j,j<n->M.ElemOK nr a (B j)):M.BodyOK nr a n B↔M.Shape n B :=
 ⟨λq=>q.2,λq=>⟨h,q⟩⟩
theorem yF Q a(nr s n c:Nat)B w(y:OpsA Q w a n B)(h1:nr<=1048576)(h2:s<=1048576)(h3:xV n B) :
  Calls Tryz.prog 65 #[.slice a n c,.int .i64 nr,.int .i64 s] w (xS (M.BodyOK nr s n B) w):=by
 obtain⟨hn,t⟩:=h3;have O:=ua y;have ab:=ua t;go_enter Tryz.func65,Tryz.ntmps65;go_wp2;go_loopw [7] (λi wr=>urn w n nr s B i wr) (λi _=>n-(intOf i).toNat)
 case atStart=>exact⟨0,Nat.zero_le _,rfl,Below.refl _ _,λj hj=>absurd hj (Nat.not_lt_zero _)⟩
 case round =>
  obtain⟨k,hk,rfl,D,ae⟩:=hrel;have N:=ua ae;by_cases J:k<n
  ·have y:=O.later D;rcases y with h0|⟨b,off,rfl,hq,y⟩
   ·omega
   obtain⟨G,⟨E,F,T,L⟩,U⟩:=y k J;have t:=ab k J;have af:=ub G;have f:=ua D;obtain⟨d,Z⟩:=nm (B k);have P:=ua Z;rw[Z]at G T U L t;obtain⟨kd,h,S,o⟩:=d;simp only at G T U L t;have C:=ua L;have ad:M.ElemOK nr s ⟨kd,h,S,o⟩->∀j,j<k+1->M.ElemOK nr s (B j):=λq j hj=>if e:j=k then e▸P.out▸q else N j (by omega)
   have ac:¬M.ElemOK nr s ⟨kd,h,S,o⟩->¬M.BodyOK nr s n B:=λq p=>q (P.out▸p.1 k J)
   have A:=ua ad;have l:=ua ac;rcases udo kd with rfl|rfl|rfl|I|I
   ·by_cases Y:M.Canon h S
    ·have u:Hid (M.Canon h S):=Y;by_cases H:o<0
     ·go_wp2_with (go_at_call 98;refine(jq Q E h F S _ (C.later (uf wr _)) t).mono ?_;rintro e W ⟨⟨r,rfl,m⟩,g⟩;obtain rfl:r=true:=m.2 u;have V:=(uc (a:=⟨wr.heap.size,0,none⟩) (v:=.int .i64 1) (by simp) g);have X:=(uc (a:=⟨wr.heap.size,2,none⟩) (v:=.int .i64 o) (by simp) g);have x:Hid _:=g;clear m g);go_ret;exact⟨⟨false,rfl,uJ (l λq=>by have:=((ueL _ _ _ _ _).1 q).1;omega)⟩,ud f (ud (uf wr _) x)⟩
     by_cases ha':1<=o
     ·go_wp2_with (go_at_call 98;refine(jq Q E h F S _ (C.later (uf wr _)) t).mono ?_;rintro e W ⟨⟨r,rfl,m⟩,g⟩;obtain rfl:r=true:=m.2 u;have V:=(uc (a:=⟨wr.heap.size,0,none⟩) (v:=.int .i64 1) (by simp) g);have X:=(uc (a:=⟨wr.heap.size,2,none⟩) (v:=.int .i64 o) (by simp) g);have x:Hid _:=g;clear m g);go_ret;exact⟨⟨false,rfl,uJ (l λq=>by have:=((ueL _ _ _ _ _).1 q).1;omega)⟩,ud f (ud (uf wr _) x)⟩
     go_wp2_with (go_at_call 98;refine(jq Q E h F S _ (C.later (uf wr _)) t).mono ?_;rintro e W ⟨⟨r,rfl,m⟩,g⟩;obtain rfl:r=true:=m.2 u;have V:=(uc (a:=⟨wr.heap.size,0,none⟩) (v:=.int .i64 1) (by simp) g);have X:=(uc (a:=⟨wr.heap.size,2,none⟩) (v:=.int .i64 o) (by simp) g);have x:Hid _:=g;clear m g);go_roundw
     case rel=>exact⟨k+1,by omega,by go_num,ud f (ud (uf wr _) x),A ((ueL _ _ _ _ _).2 ⟨by omega,u⟩)⟩
     case measure=>simp[intOf];omega
    have u:Hid (¬M.Canon h S):=Y;go_wp2_with (go_at_call 98;refine(jq Q E h F S _ (C.later (uf wr _)) t).mono ?_;rintro e W ⟨⟨r,rfl,m⟩,g⟩;obtain rfl:r=false:=by { cases r;rfl;exact absurd (m.1 rfl) u };have x:Hid _:=g;clear m g);go_ret;exact⟨⟨false,rfl,uJ (l λq=>u ((ueL _ _ _ _ _).1 q).2)⟩,ud f (ud (uf wr _) x)⟩
   ·by_cases z:h=0
    ·subst z;by_cases H:o<0
     ·go_wp2;go_ret;exact⟨⟨false,rfl,uJ (l λq=>by have:=(ugJ _ _ _ _ _).1 q;omega)⟩,ud f (uf wr _)⟩
     by_cases ha':(nr:Int)<=o
     ·go_wp2;go_ret;exact⟨⟨false,rfl,uJ (l λq=>by have:=(ugJ _ _ _ _ _).1 q;omega)⟩,ud f (uf wr _)⟩
     go_wp2;go_roundw
     case rel=>exact⟨k+1,by omega,by go_num,ud f (uf wr _),A ((ugJ _ _ _ _ _).2 ⟨by omega,by omega,rfl⟩)⟩
     case measure=>simp[intOf];omega
    have hz':((h:Int) != 0)=true:=(by simp;omega);go_wp2;go_ret;exact⟨⟨false,rfl,uJ (l λq=>by have:=(ugJ _ _ _ _ _).1 q;omega)⟩,ud f (uf wr _)⟩
   ·by_cases z:h=0
    ·subst z;by_cases H:o<0
     ·go_wp2;go_ret;exact⟨⟨false,rfl,uJ (l λq=>by have:=(ueM _ _ _ _ _).1 q;omega)⟩,ud f (uf wr _)⟩
     by_cases ha':(s:Int)<=o
     ·go_wp2;go_ret;exact⟨⟨false,rfl,uJ (l λq=>by have:=(ueM _ _ _ _ _).1 q;omega)⟩,ud f (uf wr _)⟩
     go_wp2;go_roundw
     case rel=>exact⟨k+1,by omega,by go_num,ud f (uf wr _),A ((ueM _ _ _ _ _).2 ⟨by omega,by omega,rfl⟩)⟩
     case measure=>simp[intOf];omega
    have hz':((h:Int) != 0)=true:=(by simp;omega);go_wp2;go_ret;exact⟨⟨false,rfl,uJ (l λq=>by have:=(ueM _ _ _ _ _).1 q;omega)⟩,ud f (uf wr _)⟩
   ·rcases I with rfl|rfl|rfl|rfl|rfl;all_goals (
     by_cases z:h=0
     ·subst z;by_cases H:o<0
      ·go_wp2;go_ret;exact⟨⟨false,rfl,uJ (l λq=>by have:=(ugK _ _ _ _ _ _ (by omega)).1 q;omega)⟩,ud f (uf wr _)⟩
      by_cases ha':1<=o
      ·go_wp2;go_ret;exact⟨⟨false,rfl,uJ (l λq=>by have:=(ugK _ _ _ _ _ _ (by omega)).1 q;omega)⟩,ud f (uf wr _)⟩
      go_wp2;go_roundw
      case rel=>exact⟨k+1,by omega,by go_num,ud f (uf wr _),A ((ugK _ _ _ _ _ _ (by omega)).2 ⟨by omega,rfl⟩)⟩
      case measure=>simp[intOf];omega
     have hz':((h:Int) != 0)=true:=(by simp;omega);go_wp2;go_ret;exact⟨⟨false,rfl,uJ (l λq=>by have:=(ugK _ _ _ _ _ _ (by omega)).1 q;omega)⟩,ud f (uf wr _)⟩)
   have R:Hid (kd<0\/7<kd):=I;by_cases ah:kd<0
   ·go_wp2;go_ret;exact⟨⟨false,rfl,uJ (l (ul7 _ _ _ _ _ _ R))⟩,ud f (uf wr _)⟩
   have ag:7<kd:=(by omega);go_wp2;go_ret;exact⟨⟨false,rfl,uJ (l (ul7 _ _ _ _ _ _ R))⟩,ud f (uf wr _)⟩
  obtain rfl:k=n:=by omega
  have y:=O.later D;have aa:=ua y;go_wp2_with (go_at_call 99;refine(uga Q a k c B _ aa hn).mono ?_;rintro e W ⟨⟨r,rfl,m⟩,hw⟩;subst W;have HR:Hid _:=m;clear m);go_ret;exact⟨⟨_,rfl,HR.trans (uhO nr s _ B N).symm⟩,D⟩
open M (LessT)
def Byt(n:Nat)(T:Nat->Int):Prop:=∀i,i<n->0<=T i/\T i<=255
def u8s(n:Nat)(T:Nat->Int):List UInt8:=(List.range n).map λi=>UInt8.ofNat (T i).toNat
def str(n:Nat)(T:Nat->Int):ByteArray:=strOfNums ((List.range n).map T)
theorem ubL n T:(str n T).toList=u8s n T:=by
 rw[ByteArray.toList_eq,str,strOfNums_data,u8s,List.map_map];rfl
theorem jX n T:(str n T).data.toList=u8s n T:=by
 rw[str,strOfNums_data,u8s,List.map_map];rfl
theorem ud8 n T:(str n T).size=n:=by rw[str,strOfNums_size];simp
theorem kX n T:u8s (n+1) T=UInt8.ofNat (T 0).toNat::u8s n (λi=>T (i+1)):=by
 simp[u8s,List.range_succ_eq_map,Function.comp_def]
theorem urT{x y:Int}(a:0<=x/\x<=255)(b:0<=y/\y<=255):UInt8.ofNat x.toNat<UInt8.ofNat y.toNat↔x<y:=by
 rw[UInt8.lt_iff_toNat_lt];simp only[UInt8.toNat_ofNat'];omega
theorem upM{x y:Int}(a:0<=x/\x<=255)(b:0<=y/\y<=255):UInt8.ofNat x.toNat=UInt8.ofNat y.toNat↔x=y:=by
 rw[<-UInt8.toNat_inj];simp only[UInt8.toNat_ofNat'];omega
theorem ub9 n S T:¬LessT n S 0 T:=by
 rintro⟨k,_,_,_,⟨_,h,_⟩|⟨_,h⟩⟩<;>omega
theorem ucM m S T:LessT 0 S (m+1) T:=⟨0,λi a=>by omega,by omega,by omega,.inr ⟨rfl,by omega⟩⟩
theorem ui5 n m S T:LessT (n+1) S (m+1) T↔S 0<T 0\/(S 0=T 0/\LessT n (λi=>S (i+1)) m (λi=>T (i+1))):=by
 constructor
 ·rintro⟨k,c,f,g,h⟩;by_cases o:k=0
  ·subst o;rcases h with⟨_,_,h⟩|⟨h,_⟩
   ·exact .inl h
   omega
  obtain⟨q,rfl⟩:∃q,k=q+1:=⟨k-1,by omega⟩;refine .inr ⟨c 0 (by omega),q,λi d=>c (i+1) (by omega),by omega,by omega,?_⟩;rcases h with⟨a,b,h⟩|⟨a,b⟩
  ·exact .inl ⟨by omega,by omega,h⟩
  exact .inr ⟨by omega,by omega⟩
 rintro (h|⟨h,q,c,f,g,l⟩)
 ·exact⟨0,λi d=>by omega,by omega,by omega,.inl ⟨by omega,by omega,h⟩⟩
 refine⟨q+1,λi d=>?_,by omega,by omega,?_⟩
 ·by_cases e:i=0
  ·subst e;exact h
  obtain⟨j,rfl⟩:∃j,i=j+1:=⟨i-1,by omega⟩;exact c j (by omega)
 rcases l with⟨a,b,h⟩|⟨a,b⟩
 ·exact .inl ⟨by omega,by omega,h⟩
 exact .inr ⟨by omega,by omega⟩
theorem ud9:∀(n m:Nat) (S T:Nat->Int),Byt n S->Byt m T->(Op.bytesLess (u8s n S) (u8s m T)=true↔LessT n S m T)
 |n,0,S,T,_,_=>by
  have:u8s 0 T = []:=rfl;rw[this];cases u8s n S<;>simp[Op.bytesLess,ub9]
 |0,m+1,S,T,_,_=>by
  rw[kX];have:u8s 0 S = []:=rfl;rw[this];simp[Op.bytesLess,ucM]
 |n+1,m+1,S,T,hS,hT=>by
  have b:=ud9 n m (λi=>S (i+1)) (λi=>T (i+1)) (λi a=>hS (i+1) (by omega)) (λi a=>hT (i+1) (by omega));rw[kX,kX,Op.bytesLess,ui5,<-b];simp only[Bool.or_eq_true,Bool.and_eq_true,decide_eq_true_eq,beq_iff_eq];rw[urT (hS 0 (by omega)) (hT 0 (by omega)),upM (hS 0 (by omega)) (hT 0 (by omega))]
theorem uhF:∀(d f:List UInt8),-1<=Lib.compareBytes d f/\Lib.compareBytes d f<=1/\(Lib.compareBytes d f<0↔Op.bytesLess d f=true)
 |[],[]=>by simp[Lib.compareBytes,Op.bytesLess]
 |[],_::_=>by simp[Lib.compareBytes,Op.bytesLess]
 |_::_,[]=>by simp[Lib.compareBytes,Op.bytesLess]
 |a::x,b::y=>by
  obtain⟨g,h,i⟩:=uhF x y;rw[Lib.compareBytes,Op.bytesLess];by_cases e:a<b
  ·simp[e]
  by_cases c:b<a
  ·have k:¬a=b:=λq=>e (by rw[q]at c ⊢;exact c)
   simp[e,c,k]
  have j:a=b:=UInt8.le_antisymm (UInt8.not_lt.1 c) (UInt8.not_lt.1 e);subst j;simp[e];exact⟨g,h,i⟩
theorem ui6:∀(n m:Nat) (S T:Nat->Int),Byt n S->Byt m T->(u8s n S=u8s m T↔n=m/\∀i,i<n->S i=T i)
 |0,0,S,T,_,_=>⟨λ_=>⟨rfl,λi b=>by omega⟩,λ_=>rfl⟩
 |0,m+1,S,T,_,_=>by
  rw[kX];exact⟨λh=>absurd h (by simp[u8s]),λh=>by omega⟩
 |n+1,0,S,T,_,_=>by
  rw[kX];exact⟨λh=>absurd h (by simp[u8s]),λh=>by omega⟩
 |n+1,m+1,S,T,hS,hT=>by
  have f:=ui6 n m (λi=>S (i+1)) (λi=>T (i+1)) (λi b=>hS (i+1) (by omega)) (λi b=>hT (i+1) (by omega));rw[kX,kX,List.cons.injEq,f,upM (hS 0 (by omega)) (hT 0 (by omega))];constructor
  ·rintro⟨c,d,a⟩;refine⟨by omega,λi b=>?_⟩;by_cases e:i=0
   ·subst e;exact c
   obtain⟨j,rfl⟩:∃j,i=j+1:=⟨i-1,by omega⟩;exact a j (by omega)
  rintro⟨d,a⟩;exact⟨a 0 (by omega),by omega,λi b=>a (i+1) (by omega)⟩
theorem urh n m S T(a:Byt n S)(b:Byt m T):str n S=str m T↔n=m/\∀i,i<n->S i=T i:=by
 rw[<-ui6 n m S T a b,<-jX,<-jX];constructor
 ·intro h;rw[h]
 intro h;apply ByteArray.ext;exact Array.ext' h
theorem ulj w x:(loadCells x 0).run Tryz.prog w=.ok #[] w:=by
 have:=run_loadCells_list (P:=Tryz.prog) w x [] (λj v h=>by simp at h);simpa using this
theorem vD Q a n c T w(h:Ints Q .u8 w a n T):(convert 22 9 (.slice a n c)).run Tryz.prog w=.ok (.string (str n T)) w:=by
 by_cases e:n=0
 ·subst e;cases a with
  |none=>exact run_convert_bytes_nil w 22 5 Tryz.underlying22 Tryz.underlying5 0 c 9 Tryz.underlying9
  |some x =>
   rw[run_convert_bytes_string w 22 9 5 _ 0 c Tryz.underlying22 Tryz.underlying5 Tryz.underlying9,run_bytesToString w x 0 c [] (by simpa using ulj w x)];rfl
 rcases h with h|⟨b,off,rfl,f,h⟩
 ·omega
 exact run_convert_bytes_arg w 22 5 Tryz.underlying22 Tryz.underlying5 b off n c ((List.range n).map T) (by simp) (λi d=>by rw[h i d];simp[d]) 9 Tryz.underlying9
theorem ubb Q a b n c m d S T w(i:Ints Q .u8 w a n S)(j:Ints Q .u8 w b m T)(h:Byt n S)(bT:Byt m T) :
  Calls Tryz.prog 61 #[.slice a n c,.slice b m d] w (Says (LessT n S m T) w):=by
 have r1:=vD Q a n c S w i;have r2:=vD Q b m d T w j;have e:=ua (ud9 n m S T h bT);have f:=ua (ubL n S);have g:=ua (ubL m T);generalize str n S=k at *;generalize str m T=l at *;go_enter Tryz.func61,Tryz.ntmps61;go_wp2;go_ret;exact⟨⟨_,rfl,by rw[f.out,g.out];exact e⟩,rfl⟩
theorem ucD Q a n c T w(h:Ints Q .u8 w a n T):(Extern.Bytes.bytesOf (.slice a n c)).run Tryz.prog w=.ok (str n T) w:=by
 have k:(⟨ByteArray.empty.data++(Lib.bytesOf ((List.range n).map T)).toArray⟩:ByteArray)=str n T:=by
  apply ByteArray.ext;show(#[]:Array UInt8)++(Lib.bytesOf ((List.range n).map T)).toArray=_;simp[Lib.bytesOf,str,strOfNums]
 by_cases i:n=0
 ·subst i;cases a with
  |none=>rfl
  |some x =>
   have:=Lib.run_loadBytesX (P:=Tryz.prog) w [] x .empty (λj y h=>by simp at h);exact this
 rcases h with h|⟨b,off,rfl,l,h⟩
 ·omega
 have g:=Lib.run_loadBytesX (P:=Tryz.prog) w ((List.range n).map T) ⟨b,off,none⟩ .empty (λj x d=>by
  have f:j<n:=by simpa using (List.getElem?_eq_some_iff.1 d).1
  have e:(⟨b,off,none⟩:Addr).add j=⟨b,off+j,none⟩:=by unfold Addr.add;split<;>simp_all
  rw[e,h j f];simp[f]at d;rw[d])
 rw[k,show((List.range n).map T).length=n by simp]at g;exact g
theorem uhG Q a b n c m d S T w(e:Ints Q .u8 w a n S)(f:Ints Q .u8 w b m T) :
  (Extern.BytealgCompare.compare #[.slice a n c,.slice b m d]).run Tryz.prog w=.ok (.int .i64 (Lib.compareBytes (u8s n S) (u8s m T))) w:=by
 change Sem.run Tryz.prog (do pure (goInt (Extern.BytealgCompare.cmp (<-Extern.Bytes.bytesOf (.slice a n c)) (<-Extern.Bytes.bytesOf (.slice b m d))))) w=_;simp only[Sem.run_bind,ucD Q a n c S w e,ucD Q b m d T w f,Sem.run_pure,Result.andThen];rw[Lib.cmp_eq,jX,jX];rfl
theorem uhH n m S T(g:Byt n S)(bT:Byt m T):∃r:Int,-1<=r/\r<=1/\(r<0↔LessT n S m T) /\
  ∀(Q:Nat->Prop) (a b:Option Addr) (c d:Nat) (w:World),Ints Q .u8 w a n S->Ints Q .u8 w b m T->Calls Tryz.prog 104 #[.slice a n c,.slice b m d] w λe w'=>e=.returned (.int .i64 r)/\w'=w:=by
 obtain⟨h,i,j⟩:=uhF (u8s n S) (u8s m T);refine⟨_,h,i,j.trans (ud9 n m S T g bT),λQ a b c d w k l=>?_⟩;have f:=ua (uhG Q a b n c m d S T w k l);go_enter Tryz.func104,Tryz.ntmps104;go_wp2;rw[run_callFunc_extern Tryz.func130 (by kernel_rfl) (by kernel_rfl) (by kernel_rfl) (e:=Extern.BytealgCompare.compare) (by kernel_rfl),f.out];simp only[Result.andThen];rw[Oper.upon_value];go_wp2;go_ret;exact⟨rfl,rfl⟩
end Go.Proofs.YtpghlcdkfldlpaaGreat
