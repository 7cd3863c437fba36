import Derived.Test.YtoihadcablknpaaGreatDoorT01
set_option linter.unusedVariables false
set_option linter.unusedSimpArgs false
set_option linter.defProp false
set_option maxHeartbeats 40000000
set_option maxRecDepth 100000
namespace Go.Proofs.YtoihadcablknpaaGreatDoor
open Go.RowKit
open Go.Proofs.Tryz
def SS(n:Nat)(h:n%2=1):((n:Int)%2 != 0)=true:=by
 have:(n:Int)%2=1:=oM;rw[this];decide
def SU(n:Nat)(h:n%2=0):((n:Int)%2 != 0)=false:=by
 have:(n:Int)%2=0:=oM;rw[this];decide
def utN(n:Nat)(h:n%2=1):((n:Int)%2==1)=true:=by
 have:(n:Int)%2=1:=oM;rw[this];decide
def utO(n:Nat)(h:n%2=0):((n:Int)%2==1)=false:=by
 have:(n:Int)%2=0:=oM;rw[this];decide
def utP(n:Nat)(h:n%2=0):((n:Int)%2==0)=true:=by
 have:(n:Int)%2=0:=oM;rw[this];decide
def utQ(n:Nat)(h:n%2=1):((n:Int)%2==0)=false:=by
 have:(n:Int)%2=1:=oM;rw[this];decide
def DR S k:M.bQ S (k+1)=S (2*k+1)+2:=by
 unfold M.bQ;rw[Zn oM,show 2*(k+1)-1=2*k+1 by omega]
def yQ{k a b}(h:a=b):Value.int k a=.int k b:=by rw[h]
def ul7 n S k(h:2*k=n)(a:∀j,j<k->M.eH S j):M.bL n S :=
 ⟨oM,λi b=>(M.dW S k).1 a i oM⟩
def DT n S k(h:2*k<n)(a:¬M.eH S k):¬M.bL n S:=λq =>
 a ((M.dW S (n / 2)).2 (λi b=>q.2 i oM) k (oH q.1))
def utR(w:Wl)(n:Nat)(S:Nat->Int)(l i:Vl)(wr:Wl):Prop :=
 ∃k d:Nat,2*k<=n/\l=Iv (M.bQ S k)/\i=Iv ((2*k:Nat):Int)/\wr=w.drewN d/\(∀j,j<k->M.eH S j)/\0<=M.bQ S k/\M.bQ S k<=257
def ucH Q a n c S w(f:wB Q .i64 w a n S)(D:n<=1048576) :
  Cs 227 #[Sl a n c] w (yz (M.bL n S) w):=by
 rcases(Sx n).symm with h|h
 ·have t:=SS n h;go_enter func227,ntmps227;go_wp2;go_ret;exact⟨⟨false,rfl,vh λq=>by have:=q.1;omega⟩,wI _⟩
 have t:=SU n h;go_enter func227,ntmps227;go_wp2;go_loopw [3,4] (λl i wr=>utR w n S l i wr) (λl i _=>n-(intOf i).toNat)
 ·exact⟨0,0,oM,rfl,rfl,rfl,λj o=>aB o Ct,by simp[M.bQ],by simp[M.bQ]⟩
 obtain⟨k,d,A,rfl,rfl,rfl,s,B,C⟩:=hrel;have m:=ua s;by_cases g:2*k<n
 ·rcases f with x|⟨b,off,rfl,E,f⟩
  ·omega
  have y:=f (2*k) g;have z:=f (2*k+1) oM;have F:((2*k+1:Nat):Int)=((2*k:Nat):Int)+1:=oM;have G:((2*k:Nat):Int)<(n:Int):=oM;have H:((2*k:Nat):Int)+1<(n:Int):=oM;by_cases u:S (2*k)<M.bQ S k
  ·go_wp2_with fail;go_quiet (fail);go_wp2;go_ret;exact⟨⟨false,rfl,vh (DT n S k g λq=>oH q.1)⟩,by first|exact zB (wI _) _|exact zB (zB (wI _) _) _|exact zB (zB (zB (wI _) _) _) _⟩
  by_cases v:S (2*k+1)<S (2*k)
  ·go_wp2_with fail;go_quiet (fail);go_wp2;go_ret;exact⟨⟨false,rfl,vh (DT n S k g λq=>oH q.2.1)⟩,by first|exact zB (wI _) _|exact zB (zB (wI _) _) _|exact zB (zB (zB (wI _) _) _) _⟩
  by_cases c3:255<S (2*k+1)
  ·go_wp2_with fail;go_quiet (fail);go_wp2;go_ret;exact⟨⟨false,rfl,vh (DT n S k g λq=>oH q.2.2)⟩,by first|exact zB (wI _) _|exact zB (zB (wI _) _) _|exact zB (zB (zB (wI _) _) _) _⟩
  go_wp2_with fail;go_quiet (fail);go_wp2;go_roundw
  ·refine⟨k+1,_,oM,yQ (DR S k).symm,by go_num,rfl,λj o=>?_,?_,?_⟩
   ·by_cases e:j=k
    ·subst e;exact⟨oM,oM,oM⟩
    exact m j oM
   ·rw[DR];omega
   rw[DR];omega
  simp[intOf];omega
 have r:2*k=n:=oM;have p:=ua r;have I:¬((2*k:Nat):Int)<(n:Int):=oM;go_wp2;go_ret;exact⟨⟨true,rfl,jS (ul7 n S k p m)⟩,by first|exact zB (wI _) _|exact zB (zB (wI _) _) _|exact zB (zB (zB (wI _) _) _) _⟩
def utS(w:Wl)(n:Nat)(S:Nat->Int)(i:Vl)(wr:Wl):Prop :=
 ∃k d:Nat,k<=n/\i=Iv (k:Int)/\wr=w.drewN d/\∀j,j<k->M.dI S j
def Wm{n S k}(a:k<n)(h:¬M.dI S k):¬M.bL n S:=λq=>h (q.2 k a)
def SV Q a n c S w(o:wB Q .i64 w a n S)(N:n<=1048576) :
  Cs 90 #[Sl a n c] w (yz (M.bL n S) w):=by
 rcases(Sx n).symm with r|r
 ·have t:=SS n r;go_enter func90,ntmps90;go_wp2;go_ret;exact⟨⟨false,rfl,vh λq=>by have:=q.1;omega⟩,wI _⟩
 have t:=SU n r;go_enter func90,ntmps90;go_wp2;go_loopw [3] (λi wr=>utS w n S i wr) (λi _=>n-(intOf i).toNat)
 ·exact⟨0,0,oM,rfl,rfl,λj s=>aB s Ct⟩
 obtain⟨k,d,I,rfl,rfl,x⟩:=hrel;have m:=ua x;by_cases l:k<n
 ·rcases o with G|⟨b,off,rfl,O,o⟩
  ·omega
  have y:=o k l;have P:(k:Int)<(n:Int):=oM;by_cases D:S k<0
  ·go_wp2;go_ret;exact⟨⟨false,rfl,vh (Wm l λq=>oH q.1)⟩,by first|exact zB (wI _) _|exact zB (zB (wI _) _) _|exact zB (zB (zB (wI _) _) _) _⟩
  by_cases E:255<S k
  ·go_wp2;go_ret;exact⟨⟨false,rfl,vh (Wm l λq=>oH q.2.1)⟩,by first|exact zB (wI _) _|exact zB (zB (wI _) _) _|exact zB (zB (zB (wI _) _) _) _⟩
  by_cases z:k=0
  ·subst z;rw[Cc]at y;go_wp2_with fail;go_quiet (fail);go_wp2_with fail;go_quiet (fail);go_wp2;go_roundw
   ·refine⟨1,_,oM,by go_num,rfl,λj s=>?_⟩;obtain rfl:j=0:=oM;exact⟨oM,oM,λh=>oM,λh=>oM⟩
   simp[intOf];omega
  obtain⟨p,v⟩:∃p,k=p+1:=⟨k-1,oM⟩;have g:=ua v;have L:(0:Int)<(k:Int):=oM;have J:0<k:=oM;have H:=o p (oH g);have u:=m p (oH g);have C:=u.1;have b1:=u.2.1;clear u;have F:(k:Int)-1=(p:Int):=oM;clear v;rcases Sx k with f|f
  ·have B:=utO k f;have A:=utP k f;by_cases c3:S k<S p+2
   ·go_wp2_with fail;go_quiet (fail);go_wp2_with fail;go_quiet (fail);go_wp2;go_ret;exact⟨⟨false,rfl,vh (Wm l λq=>by have:=q.2.2.2 ⟨oM,f⟩;rw[g.o]at this c3;simp at this;omega)⟩,by first|exact zB (wI _) _|exact zB (zB (wI _) _) _|exact zB (zB (zB (wI _) _) _) _⟩
   go_wp2_with fail;go_quiet (fail);go_wp2_with fail;go_quiet (fail);go_wp2;go_roundw
   ·refine⟨k+1,_,oM,by go_num,rfl,λj s=>?_⟩;by_cases e:j=k
    ·subst j;exact⟨oM,oM,λh=>oM,λh=>by rw[g.o]at c3 ⊢;simp;omega⟩
    exact m j oM
   simp[intOf];omega
  have B:=utN k f;have A:=utQ k f;by_cases c3:S k<S p
  ·go_wp2_with fail;go_quiet (fail);go_wp2;go_ret;exact⟨⟨false,rfl,vh (Wm l λq=>by have:=q.2.2.1 f;rw[g.o]at this c3;simp at this;omega)⟩,by first|exact zB (wI _) _|exact zB (zB (wI _) _) _|exact zB (zB (zB (wI _) _) _) _⟩
  go_wp2_with fail;go_quiet (fail);go_wp2_with fail;go_quiet (fail);go_wp2;go_roundw
  ·refine⟨k+1,_,oM,by go_num,rfl,λj s=>?_⟩;by_cases e:j=k
   ·subst j;exact⟨oM,oM,λh=>by rw[g.o]at c3 ⊢;simp;omega,λh=>oM⟩
   exact m j oM
  simp[intOf];omega
 obtain rfl:k=n:=oM;go_wp2;go_ret;exact⟨⟨true,rfl,jS ⟨r,m⟩⟩,by first|exact zB (wI _) _|exact zB (zB (wI _) _) _|exact zB (zB (zB (wI _) _) _) _⟩
open M (OpD uh Gr)
def FI Q a(n c l:Nat)B w(p:wT Q w a n B)(E:n<=1048576) :
  Cs 63 #[Sl a n c,Iv l] w (Ex (M.bO n B l) w):=by
 go_enter func63,ntmps63;go_wp2;go_loopw [5] (λi wr=>∃k:Nat,k<=n/\i=Iv k/\wr=w/\∀j,j<k->¬((B j).e=3/\(B j).f=l)) (λi _=>n-(intOf i).toNat)
 ·exact⟨0,wP,rfl,rfl,λj r=>aB r Ct⟩
 obtain⟨k,D,rfl,rfl,v⟩:=hrel;have o:=ua v;by_cases s:k<n
 ·rcases p with C|⟨b,off,rfl,F,p⟩
  ·omega
  obtain⟨y,⟨sa,sc,z,G⟩,A⟩:=p k s;by_cases d:(B k).e=3
  ·have t:((B k).e==3)=true:=(by simp[d]);have h:=ua d;by_cases g:(B k).f=l
   ·have u:((B k).f==(l:Int))=true:=(by simp[g]);have m:=ua g;go_wp2;go_ret;exact⟨⟨true,rfl,jS ⟨k,s,h,m⟩⟩,rfl⟩
   have u:((B k).f==(l:Int))=false:=(by simp[g]);have m:=ua g;go_wp2;go_roundw
   ·exact⟨k+1,oM,by go_num,by trivial,λj r=>if e:j=k then e▸λq=>m q.2 else o j oM⟩
   simp[intOf];omega
  have t:((B k).e==3)=false:=by simp[d]
  have h:=ua d;go_wp2;go_roundw
  ·exact⟨k+1,oM,by go_num,by trivial,λj r=>if e:j=k then e▸λq=>h q.1 else o j oM⟩
  simp[intOf];omega
 obtain rfl:k=n:=oM;go_wp2;go_ret;exact⟨⟨false,rfl,vh λ⟨i,x,q⟩=>o i x q⟩,rfl⟩
def VU(w:Wl)(n:Nat)(B:Nat->OpD)(d i:Vl)(wr:Wl):Prop :=
 ∃j:Nat,j<=n/\d=Iv (M.bP B n j)/\i=Iv ((n:Int)-1-j)/\wr=w/\∀t,t<j->M.bP B n t≠0
def VV Q a n c B w(k:wT Q w a n B)(H:n<=1048576) :
  Cs 91 #[Sl a n c] w (Ex (M.dF n B) w):=by
 go_enter func91,ntmps91;go_wp2;go_loopw [3,4] (λd i wr=>VU w n B d i wr) (λd i _=>(intOf i+1).toNat)
 ·exact⟨0,wP,rfl,sM,rfl,λj o=>aB o Ct⟩
 obtain⟨j,o,rfl,rfl,rfl,m⟩:=hrel;have A:=M.need_bd B n j m;have l:=ua m;by_cases v:j<n
 ·rcases k with F|⟨b,off,rfl,J,k⟩
  ·omega
  obtain⟨p,x⟩:=nm (n-1-j);have r:=ua x;have h:(n:Int)-1-j=p:=oM;have y:p<n:=oM;have I:(p:Int)<n:=oM;rw[h];obtain⟨C,⟨sa,sc,D,L⟩,E⟩:=k p y;have z:M.bP B n (j+1)=M.bP B n j+(M.ar (B p).e-1):=by rw[M.bP,r.o]
  have G:=M.cP (B p).e;have s:=ua z;by_cases f:M.bP B n j=0
  ·have u:(M.bP B n j==0)=true:=(by simp[f]);have g:=ua f;go_wp2;go_ret;exact⟨⟨false,rfl,vh λq=>((M.fS n B).2 q).1 j v g⟩,rfl⟩
  have u:(M.bP B n j==0)=false:=by simp[f]
  have g:=ua f;go_wp2_with (go_at_call 92;refine(SZ).mono ?_;rintro e W ⟨rfl,O⟩;subst W);go_roundw
  ·exact⟨j+1,oM,yQ s.symm,yQ oM,by trivial,λt N=>if e:t=j then e▸g.o else l t oM⟩
  simp[intOf]<;>omega
 obtain rfl:j=n:=oM;have h:(j:Int)-1-j = -1:=oM;rw[h];go_wp2;go_ret;refine⟨⟨_,rfl,?_⟩,rfl⟩;rw[<-M.fS];simp only[beq_iff_eq];exact⟨λq=>⟨l,q⟩,λq=>q.2⟩
def Qy nr e b S a:M.bE nr e ⟨1,b,S,a⟩↔a=0/\M.bL b S:=by
 unfold M.bE M.bM;constructor
 ·rintro⟨_,_,h,_,c,d⟩;exact⟨by simp at c d;omega,h rfl⟩
 rintro⟨rfl,h⟩;refine⟨?_,?_,λ_=>h,λq=>aB rfl q,?_,?_⟩<;>simp
def Ye{nr}{c}{b}{S}{a}:M.bE nr c ⟨2,b,S,a⟩↔0<=a/\a<nr/\b=0:=by
 unfold M.bE M.bM;simp;omega
def Tp{nr}{b}{c}{S}{a}:M.bE nr b ⟨3,c,S,a⟩↔0<=a/\a<b/\c=0:=by
 unfold M.bE M.bM;simp;omega
def Yf{nr}{d}{c}{S}{a}{b}(h:a=0\/a=4\/a=5\/a=6\/a=7):M.bE nr d ⟨a,c,S,b⟩↔b=0/\c=0:=by
 unfold M.bE M.bM;rcases h with rfl|rfl|rfl|rfl|rfl<;>(simp;omega)
def HE{nr}{e}{f}{S}{a}{b}(h:a<0\/7<a):¬M.bE nr e ⟨a,f,S,b⟩:=λq=>by
 have c:=q.1;have d:=q.2.1;simp at c d;omega
def HF(k:Int):k=1\/k=2\/k=3\/(k=0\/k=4\/k=5\/k=6\/k=7)\/(k<0\/7<k):=oM
def xe Q ra la sa nr rc d lc b sc S a c w(u:wB Q .i64 w sa b S)(D:nr<=1048576)(E:d<=1048576)(s:b<=1048576) :
  Cs 202 #[.agg #[Sl ra nr rc,Sl la d lc],.agg #[Iv a,Sl sa b sc,Iv c]] w (yz (M.bE nr d ⟨a,b,S,c⟩) w):=by
 rcases HF a with rfl|rfl|rfl|g|g
 ·by_cases f:c=0
  ·subst f;have t:∀o p,wB Q .i64 ((w.alloc o).alloc p) sa b S:=λo p=>u.q (vy w o p)
   go_enter func202,ntmps202;go_wp2_with (go_at_call 227;refine(ucH Q sa b sc S _ (t _ _) s).mono ?_;rintro e W ⟨⟨r,rfl,i⟩,h⟩;have m:Hid _:=i;have k:Hid _:=h;clear i h);go_ret;exact⟨⟨_,rfl,m.trans ((Qy nr d b S 0).trans ⟨λq=>q.2,λq=>⟨rfl,q⟩⟩).symm⟩,uf (Bn w) k⟩
  have n:(c==0)=false:=by simp[f]
  have j:=ua f;go_enter func202,ntmps202;go_wp2;go_ret;exact⟨⟨false,rfl,vh λq=>j ((Qy nr d b S c).1 q).1⟩,Bn w⟩
 ·go_enter func202,ntmps202;go_wp2;all_goals go_ret
  all_goals exact⟨⟨_,rfl,by rw[Ye];simp<;>omega⟩,Bn w⟩
 ·go_enter func202,ntmps202;go_wp2;all_goals go_ret
  all_goals exact⟨⟨_,rfl,by rw[Tp];simp<;>omega⟩,Bn w⟩
 ·rcases g with rfl|rfl|rfl|rfl|rfl;all_goals (
   go_enter func202,ntmps202;go_wp2;all_goals go_ret
   all_goals exact⟨⟨_,rfl,by rw[Yf oM];simp<;>omega⟩,Bn w⟩)
 have l:Hid (a<0\/7<a):=g;have n:(a==0)=false:=sO;have v:(a==1)=false:=sO;have x:(a==2)=false:=sO;have y:(a==3)=false:=sO;have z:(a==4)=false:=sO;have A:(a==5)=false:=sO;have B:(a==6)=false:=sO;have C:(a==7)=false:=sO;go_enter func202,ntmps202;go_wp2;go_ret;exact⟨⟨false,rfl,vh (HE l)⟩,Bn w⟩
end Go.Proofs.YtoihadcablknpaaGreatDoor
