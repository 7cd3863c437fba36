import Derived.Test.YtpghlcdkfldlpaaGreatT13
set_option linter.unusedVariables false
set_option linter.unusedSimpArgs false
set_option maxHeartbeats 40000000
set_option maxRecDepth 100000
namespace Go.Proofs.YtpghlcdkfldlpaaGreat
open Go.RowKit
def udq(x y:Int)(w:World)(e:Ending)(w':World):Prop:=e=.returned (.tuple #[.int .i64 x,.int .i64 y])/\∃m,w'=w.drewN m
theorem xZ{x y w}:udq x y w (.returned (.tuple #[.int .i64 x,.int .i64 y])) w:=⟨rfl,0,rfl⟩
theorem TxA.drew{Q t a w}(h:TxA Q w a t)m:TxA Q (w.drewN m) a t:=Ints.later h (below_drewN (Below.refl _ w) m)
theorem ugN{x}(h:0<=x)(a:x<=4000000):IntKind.i64.wrap x=x:=by
 unfold IntKind.wrap;have b:x%(2 ^ IntKind.i64.bits:Int)=x:=Int.emod_eq_of_lt h (Int.lt_of_le_of_lt a (by decide));have c:¬(x ≥ (2 ^ (IntKind.i64.bits-1):Int)):=λq=>absurd (Int.le_trans q a) (by decide)
 simp only[b,c,decide_false,Bool.and_false,if_neg,Bool.false_eq_true,not_false_iff]
theorem ufG Q t a c i w(y:TxA Q w a t)(H:i<=t.n) :
  Calls Tryz.prog 143 #[.slice a t.n c,.int .i64 i] w (udq (esc t i).1 ((esc t i).2:Nat) w):=by
 have I:=t.le;unfold esc;by_cases C:t.n<=i+1
 ·rw[if_pos (.inl C)];have D:(t.n:Int)<=(i:Int)+1:=by omega
  go_enter Tryz.func143,Tryz.ntmps143;go_wp2;go_ret2;exact xZ
 have D:¬(t.n:Int)<=(i:Int)+1:=by omega
 obtain⟨b,off,rfl,J,h⟩:=y.at (i:=i) (by omega);have E:=h i (by omega);have L:=h (i+1) (by omega);have b1:=t.byt (i+1);by_cases g:t.T i=92
 ·rw[if_neg (by omega)];rw[g]at E;have o:=ua h;have m:=ua t.byt;clear h y;generalize t.T (i+1)=x at *;by_cases j:x=110
  ·subst j;go_enter Tryz.func143,Tryz.ntmps143;go_wp2;go_ret2;exact xZ
  by_cases k:x=116
  ·subst k;go_enter Tryz.func143,Tryz.ntmps143;go_wp2;go_ret2;exact xZ
  by_cases l:x=114
  ·subst l;go_enter Tryz.func143,Tryz.ntmps143;go_wp2;go_ret2;exact xZ
  rw[if_neg j,if_neg k,if_neg l];have x1':(x==110)=false:=by simpa using j
  have x2':(x==116)=false:=by simpa using k
  have x3':(x==114)=false:=by simpa using l
  by_cases d:umm x
  ·rw[if_pos d];rcases d with rfl|rfl|rfl|rfl|rfl|rfl;all_goals (
    go_enter Tryz.func143,Tryz.ntmps143;go_wp2;go_ret2;exact xZ)
  rw[if_neg d];obtain⟨y1,y2,y3,y4,F,G⟩:(x==92)=false/\(x==34)=false/\(x==91)=false/\(x==93)=false/\(x==45)=false/\(x==94)=false:=by
   unfold umm at d;simp only[not_or]at d;simpa using d
  clear d;by_cases s:x=120
  ·subst s;by_cases z:i+3<t.n
   ·have x6':(i:Int)+3<(t.n:Int):=(by omega);have X:(i:Int)+2<(t.n:Int):=(by omega);have P:IntKind.i64.wrap ((i:Int)+2)=((i+2:Nat):Int):=(ugN (by omega) (by omega)).trans (by omega);have R:IntKind.i64.wrap ((i:Int)+3)=((i+3:Nat):Int):=(ugN (by omega) (by omega)).trans (by omega);have v4:(0:Int)<=(i:Int)+2:=(by omega);have S:(0:Int)<=(i:Int)+3:=(by omega);have U:((i:Int)+2).toNat=i+2:=(by omega);have V:((i:Int)+3).toNat=i+3:=(by omega);have N:=o (i+2) (by omega);have O:=o (i+3) (by omega);have u:=m (i+2);have v:=m (i+3);have f:Hid (∀w,Calls Tryz.prog 148 #[.int .u8 (t.T (i+2))] w λe w'=>e=.returned (.int .i64 (uaC (t.T (i+2))))/\w'=w):=λw=>ubt _ w u.1 u.2
    have r:Hid (∀w,Calls Tryz.prog 148 #[.int .u8 (t.T (i+3))] w λe w'=>e=.returned (.int .i64 (uaC (t.T (i+3))))/\w'=w):=λw=>ubt _ w v.1 v.2
    have Y:=ucT (t.T (i+2));have Z:=ucT (t.T (i+3));generalize uaC (t.T (i+2))=p at *;generalize uaC (t.T (i+3))=q at *;generalize t.T (i+2)=u2 at *;generalize t.T (i+3)=u3 at *;clear o m j k l x1' x2' x3' y1 y2 y3 y4 F G g;by_cases A:0<=p
    ·by_cases B:0<=q
     ·rw[if_pos ⟨rfl,z,A,B⟩];go_enter Tryz.func143,Tryz.ntmps143;go_wp2_with fail;refine(f _).mono ?_;rintro e W ⟨rfl,rfl⟩;go_wp2_with fail;refine(r _).mono ?_;rintro e W ⟨rfl,rfl⟩;go_wp2;go_quiet (first|(go_at_call_of 148 (Value.int IntKind.u8 u2);exact Calls.quiet_of_same (f _))|(go_at_call_of 148 (Value.int IntKind.u8 u3);exact Calls.quiet_of_same (r _)));go_wp2;go_ret2;exact⟨rfl,_,rfl⟩
     rw[if_neg (λq=>B q.2.2.2)];go_enter Tryz.func143,Tryz.ntmps143;go_wp2_with fail;refine(f _).mono ?_;rintro e W ⟨rfl,rfl⟩;go_wp2_with fail;refine(r _).mono ?_;rintro e W ⟨rfl,rfl⟩;go_wp2;go_ret2;exact xZ
    rw[if_neg (λq=>A q.2.2.1)];go_enter Tryz.func143,Tryz.ntmps143;go_wp2_with fail;refine(f _).mono ?_;rintro e W ⟨rfl,rfl⟩;go_wp2;go_ret2;exact xZ
   rw[if_neg (λq=>z q.2.1)];have x6':¬(i:Int)+3<(t.n:Int):=(by omega);go_enter Tryz.func143,Tryz.ntmps143;go_wp2;go_ret2;exact xZ
  rw[if_neg (λq=>s q.1)];have x5':(x==120)=false:=by simpa using s
  go_enter Tryz.func143,Tryz.ntmps143;go_wp2;go_ret2;exact xZ
 rw[if_pos (.inr g)];have c1':(t.T i==92)=false:=by simpa using g
 go_enter Tryz.func143,Tryz.ntmps143;go_wp2;go_ret2;exact xZ
theorem ua0 Q t a c i cls w(g:TxA Q w a t)(u:i<=t.n) :
  Calls Tryz.prog 126 #[.slice a t.n c,.int .i64 i,.bool cls] w (udq (chr t i cls).1 ((chr t i cls).2:Nat) w):=by
 have y:=t.le;unfold chr;by_cases o:t.n<=i
 ·rw[if_pos (.inl o)];have p:(t.n:Int)<=(i:Int):=by omega
  go_enter Tryz.func126,Tryz.ntmps126;go_wp2;go_ret2;exact xZ
 have p:¬(t.n:Int)<=(i:Int):=by omega
 have k:Hid (∀w,TxA Q w a t->Calls Tryz.prog 143 #[.slice a t.n c,.int .i64 i] w (udq (esc t i).1 ((esc t i).2:Nat) w)):=λw h=>ufG Q t a c i w h u
 have l:=ua g;obtain⟨b,off,rfl,z,s⟩:=g.at (i:=i) (by omega);have A:=s i (by omega);have v:=t.byt i;generalize t.T i=x at *;by_cases j:x=10
 ·subst j;rw[if_pos (.inr rfl)];go_enter Tryz.func126,Tryz.ntmps126;go_wp2;go_ret2;exact xZ
 have x1':(x==10)=false:=by simpa using j
 rw[if_neg (by omega)];by_cases f:x=92
 ·subst f;rw[if_pos rfl];generalize esc t i=r at *;go_enter Tryz.func126,Tryz.ntmps126;go_wp2_with fail;refine(k w l).mono ?_;rintro e W ⟨rfl,m,rfl⟩;go_wp2;go_ret2;exact⟨rfl,m,rfl⟩
 rw[if_neg f];have x2':(x==92)=false:=by simpa using f
 cases cls with
 |true =>
  by_cases d:x=93\/x=45\/x=94
  ·rw[if_pos ⟨rfl,d⟩];rcases d with rfl|rfl|rfl;all_goals (
    go_enter Tryz.func126,Tryz.ntmps126;go_wp2;go_ret2;exact xZ)
  rw[if_neg (λq=>d q.2),if_neg (λq=>Bool.noConfusion q.1)];obtain⟨y1,y2,y3⟩:(x==93)=false/\(x==45)=false/\(x==94)=false:=by
   simp only[not_or]at d;simpa using d
  go_enter Tryz.func126,Tryz.ntmps126;go_wp2;go_ret2;exact xZ
 |false =>
  rw[if_neg (λq=>Bool.noConfusion q.1)];by_cases d:x=34
  ·subst d;rw[if_pos ⟨rfl,rfl⟩];go_enter Tryz.func126,Tryz.ntmps126;go_wp2;go_ret2;exact xZ
  rw[if_neg (λq=>d q.2)];have y1:(x==34)=false:=by simpa using d
  go_enter Tryz.func126,Tryz.ntmps126;go_wp2;go_ret2;exact xZ
theorem udB Q t a c i w(C:TxA Q w a t)(D:i<=t.n) :
  Calls Tryz.prog 58 #[.slice a t.n c,.int .i64 i] w λe w'=>e=.returned (.int .i64 (skip t i:Nat))/\w'=w:=by
 have J:=t.le;have B:=ua C;go_enter Tryz.func58,Tryz.ntmps58;go_wp2;go_loopw [1] (λu wr=>∃k:Nat,k<=t.n/\u=.int .i64 k/\wr=w/\skip t k=skip t i) (λu _=>t.n-(intOf u).toNat)
 case atStart=>exact⟨i,D,rfl,rfl,rfl⟩
 case round =>
  obtain⟨k,E,rfl,rfl,v⟩:=hrel;have f:=ua v;have d:=ua (ukD t k);by_cases h:k<t.n
  ·have hlt':(k:Int)<t.n:=(by omega);obtain⟨b,off,rfl,L,s⟩:=B.at h;have F:=s k h;have H:=t.byt k;have z:=ufL t h;have y:=ua s;clear s;by_cases m:wsP (t.T k)
   ·have g:Hid (skip t (k+1)=skip t i):=(by show _=_;rw[<-f.out,d.out,if_pos h,if_pos m]);clear f d z y;generalize t.T k=x at *;rcases m with rfl|rfl|rfl|rfl;all_goals (
     go_wp2;go_roundw
     case rel=>exact⟨k+1,h,by go_num,by trivial,g⟩
     case measure=>simp[intOf];omega)
   by_cases o:t.T k=35
   ·have g:Hid (skip t (qF t k)=skip t i):=(by show _=_;rw[<-f.out,d.out,if_pos h,if_neg m,if_pos o]);have HG':=ua (z o);rw[o]at F;go_wp2;go_loopw [1] (λu w'=>∃j:Nat,k<=j/\j<=t.n/\u=.int .i64 j/\w'=wr/\qF t j=qF t k) (λu _=>t.n-(intOf u).toNat)
    case atStart=>exact⟨k,Nat.le_refl _,E,rfl,rfl,rfl⟩
    case round =>
     obtain⟨j,I,A,rfl,rfl,v⟩:=hrel;have f:=ua v;have d:=ua (ueW t j);by_cases r:j<t.n
     ·have hjl':(j:Int)<t.n:=(by omega);have G:=y j r;have b1:=t.byt j;by_cases p:t.T j=10
      ·have l:Hid (j=qF t k):=(by show _=_;rw[<-f.out,d.out,if_neg (λq=>q.2 p)]);rw[p]at G;go_wp2;go_roundw
       case rel=>exact⟨j,A,rfl,by trivial,by rw[l.out];exact g⟩
       case measure=>have:=l.out;have:=HG'.out;simp[intOf];omega
      have l:Hid (qF t (j+1)=qF t k):=(by show _=_;rw[<-f.out,d.out,if_pos ⟨r,p⟩]);have y1:(t.T j==10)=false:=(by simpa using p);go_wp2;go_roundw
      case rel=>exact⟨j+1,by omega,r,by go_num,by trivial,l⟩
      case measure=>simp[intOf];omega
     have l:Hid (j=qF t k):=(by show _=_;rw[<-f.out,d.out,if_neg (λq=>r q.1)]);have hjl':¬(j:Int)<t.n:=(by omega);go_wp2;go_roundw
     case rel=>exact⟨j,A,rfl,by trivial,by rw[l.out];exact g⟩
     case measure=>have:=l;have:=HG';simp[intOf];omega
   obtain⟨y1,y2,y3,y4⟩:(t.T k==32)=false/\(t.T k==9)=false/\(t.T k==13)=false/\(t.T k==10)=false:=by
    unfold wsP at m;simp only[not_or]at m;simpa using m
   have N:(t.T k==35)=false:=(by simpa using o);have g:Hid (k=skip t i):=(by show _=_;rw[<-f.out,d.out,if_pos h,if_neg m,if_neg o]);go_wp2;go_ret;exact⟨uC (by rw[<-g.out]),rfl⟩
  obtain rfl:k=t.n:=by omega
  have g:Hid (t.n=skip t i):=by show _=_;rw[<-f.out,d.out,if_neg h]
  go_wp2;go_ret;exact⟨uC (by rw[<-g.out]),rfl⟩
open M (OpD ue Gr)
def BufI(k:IntKind)(w0:World)(z:List Int)(v:Value)(wr:World):Prop:=OwnC (New w0 wr) wr v 1 z.length (uV k (lf z) z.length)/\Keep (λ_=>False) w0 wr
theorem udC k l x:uV k (lf l) l.length++[.int k x]=uV k (lf (l++[x])) (l.length+1):=by
 unfold uV;rw[List.range_succ,List.map_append];congr 1
 ·refine List.map_congr_left λi a=>?_
  have:=List.mem_range.1 a;simp[lf,List.getElem?_append_left this]
 simp[lf]
theorem BufI.nil{k w0 wr}(h:Keep (λ_=>False) w0 wr):BufI k w0 [] (.slice none 0 0) wr:=⟨.inl ⟨rfl,rfl,rfl⟩,h⟩
theorem BufI.snoc{k w0 wr c a l m x}(f:Keep (λ_=>False) w0 wr)(i:Keep (λ_=>False) wr c)(own:OwnC (λb=>New w0 wr b\/c.heap.size<=b) a m 1 (l.length+1) (uV k (lf l) l.length++[.int k x]))(g:Grew (New w0 wr) c a):BufI k w0 (l++[x]) m a:=by
 have r:(l++[x]).length=l.length+1:=by simp
 refine⟨?_,yq (f.trans i) g (λb q=>q.1)⟩;rw[udC]at own;rw[r];have t:=f.size;have zk':=i.size;rcases own with⟨_,q,_⟩|⟨b,cap,e,s,n,o,d,p⟩
 ·omega
 refine .inr ⟨b,cap,e,⟨?_,?_⟩,n,o,d,p⟩
 ·rcases s with q|q
  ·exact q.1
  omega
 have j:0<(uV k (lf (l++[x])) (l.length+1)).length:=by rw[kA];omega
 have h:=d 0 j;rw[List.getElem?_eq_getElem j]at h;exact ub h
theorem BufI.shape{k w0 wr l v}(h:BufI k w0 l v wr):∃a c,v=.slice a l.length c:=ul h.1
theorem BufI.ints{k w0 wr l a n c}(h:BufI k w0 l (.slice a n c) wr):Ints (New w0 wr) k wr a l.length (lf l):=by
 obtain⟨b,d,e⟩:=ul h.1;injection e with e1 e2 e3;subst e1 e2 e3;exact xy h.1
theorem ufS(wr:World)(x:Int):Src Tryz.prog 1 22 (.slice (some ⟨wr.heap.size,0,none⟩) 1 1) 1 [.int .u8 x] (wr.alloc (.cells #[.int .u8 x] 5)) :=
 yH Tryz.underlying22 rfl (λj u a=>by
  have b:=World.alloc_heap_new wr (.cells #[.int .u8 x] 5);simp only[World.cell?,b];rw[<-a];simp) (λu a=>by obtain rfl:=List.mem_singleton.1 a;rfl)
theorem uI w m:Keep (λ_=>False) w (w.drewN m):=Keep.of_below (below_drewN (Below.refl w.heap.size w) m) (λk a _=>a)
theorem TxA.keep{Q t a w w'}(h:TxA Q w a t)(k:Keep (λ_=>False) w w'):TxA Q w' a t:=Ints.later h k.bel
theorem uoJ t i(d:i<=t.n):0<=(esc t i).1/\(esc t i).1<=255/\i+(esc t i).2<=t.n:=by
 have b1:=t.byt (i+1);have e:=ucT (t.T (i+2));have f:=ucT (t.T (i+3));unfold esc;split
 ·simp;omega
 split
 ·simp;omega
 split
 ·simp;omega
 split
 ·simp;omega
 split
 ·simp;omega
 split
 ·rename_i h;obtain⟨_,a,b,c⟩:=h;simp;omega
 simp;omega
theorem qo t i c(b:i<=t.n):0<=(chr t i c).1/\(chr t i c).1<=255/\i+(chr t i c).2<=t.n:=by
 have b1:=t.byt i;have a:=uoJ t i b;unfold chr;split
 ·simp;omega
 split
 ·exact a
 split
 ·simp;omega
 split
 ·simp;omega
 simp;omega
def udD(t:Tx):Nat->Nat->List Int->Option (List Int×Nat)
 |0,_,_=>none
 |f+1,j,z=>if j<t.n/\t.T j=34 then some (z,j+1) else if (chr t j false).2=0 then none else udD t f (j+(chr t j false).2) (z++[(chr t j false).1])
def ug1(t:Tx)(i:Nat):Option (List Int×Nat):=udD t (t.n-i) (i+1) []
def umA(k:IntKind)(r:Option (List Int×Nat))(i:Nat)(w:World)(e:Ending)(w':World):Prop :=
 Keep (λ_=>False) w w'/\match r with
 |none=>e=.returned (.tuple #[.slice none 0 0,.int .i64 0])
 |some (z,j)=>∃a c,e=.returned (.tuple #[.slice a z.length c,.int .i64 ((j:Int)-i)])/\Ints (New w w') k w' a z.length (lf z)
theorem ufT Q t a c i w(hT:TxA Q w a t)(hi:i<t.n) :
  Calls Tryz.prog 96 #[.slice a t.n c,.int .i64 i] w (umA .u8 (ug1 t i) i w):=by
 have ae:=t.le;have HT:=ua hT;obtain⟨r,L⟩:=nm (ug1 t i);rw[L];go_enter Tryz.func96,Tryz.ntmps96;go_wp2;go_loopw [6,7] (λv u wr=>∃(f j:Nat) (z:List Int),j<=t.n/\i<j/\t.n-j<f/\u=.int .i64 j/\z.length<=j/\BufI .u8 w z v wr/\udD t f j z=r) (λ_ u _=>t.n-(intOf u).toNat)
 case atStart=>exact⟨t.n-i,i+1,[],by omega,by omega,by omega,by go_num,by simp,BufI.nil (Keep.refl _ _),L⟩
 case round =>
  obtain⟨f,j,z,R,ad,hf,rfl,hz,C,U⟩:=hrel;obtain⟨f,rfl⟩:∃q,f=q+1:=⟨f-1,by omega⟩;obtain⟨va,vc,rfl⟩:=C.shape;have k:Hid (BufI .u8 w z (.slice va z.length vc) wr):=C;have P:Hid ((if j<t.n/\t.T j=34 then some (z,j+1) else if (chr t j false).2=0 then none else udD t f (j+(chr t j false).2) (z++[(chr t j false).1]))=r):=U;have l:Hid (TxA Q wr a t):=HT.out.keep C.2;clear C U L;by_cases I:j<t.n/\t.T j=34
  ·obtain⟨J,S⟩:=I;obtain⟨b,off,rfl,_,s⟩:=l.out.at J;have N:=s j J;rw[S]at N;have hq1':(j:Int)<t.n:=(by omega);clear s;go_wp2;go_ret2;have e:=P.out;rw[if_pos ⟨J,S⟩]at e;subst e;exact⟨k.out.2,_,_,by congr 3,k.out.ints⟩
  have O:Hid (¬(j<t.n/\t.T j=34)):=I;obtain⟨x1,x2,V⟩:=qo t j false R;have B:Hid (∀w,TxA Q w a t->Calls Tryz.prog 126 #[.slice a t.n c,.int .i64 j,.bool false] w (udq (chr t j false).1 ((chr t j false).2:Nat) w)):=λw h=>ua0 Q t a c j false w h R
  have H:Hid ((if (chr t j false).2=0 then none else udD t f (j+(chr t j false).2) (z++[(chr t j false).1]))=r):=by
   have:=P.out;rw[if_neg I]at this;exact this
  generalize chr t j false=p at *;obtain⟨g,y⟩:=p;simp only at x1 x2 V B H;have X:Hid (∀W1,Keep (λ_=>False) wr W1->¬y=0->∀A o,OwnC (λb=>New w wr b\/W1.heap.size<=b) o A 1 (z.length+1) (uV .u8 (lf z) z.length++[.int .u8 g])->Grew (New w wr) W1 o->∃(f x:Nat) (z:List Int),x<=t.n/\i<x/\t.n-x<f/\Value.int .i64 ((j:Int)+y)=.int .i64 x/\z.length<=x/\BufI .u8 w z A o/\udD t f x z=r):=by
   intro W1 ab F A o E D;have e:=H;rw[if_neg F]at e;exact⟨f,j+y,z++[g],V,by omega,by omega,by simp,by simp;omega,BufI.snoc k.2 ab E D,e⟩
  by_cases F:y=0
  ·subst F;have e:=H;rw[if_pos rfl]at e;subst e;by_cases d:j<t.n
   ·have hjn':(j:Int)<t.n:=(by omega);obtain⟨b,off,rfl,_,s⟩:=l.at d;have N:=s j d;have y1:(t.T j==34)=false:=by simpa using λq=>O ⟨d,q⟩
    have b0:=t.byt j;go_wp2_with fail;refine(B wr l).mono ?_;rintro e W ⟨rfl,m,rfl⟩;go_wp2;go_ret2;exact⟨k.2.trans (uI _ _),rfl⟩
   have hjn':¬(j:Int)<t.n:=(by omega);go_wp2_with fail;refine(B wr l).mono ?_;rintro e W ⟨rfl,m,rfl⟩;go_wp2;go_ret2;exact⟨k.2.trans (uI _ _),rfl⟩
  have hp':¬(y:Int)=0:=by omega
  by_cases d:j<t.n
  ·have hjn':(j:Int)<t.n:=(by omega);obtain⟨b,off,rfl,_,s⟩:=l.at d;have N:=s j d;have y1:(t.T j==34)=false:=by simpa using λq=>O ⟨d,q⟩
   have b0:=t.byt j;go_wp2_with fail;refine(B wr l).mono ?_;rintro e W ⟨rfl,m,rfl⟩;have G:=X _ ((uI wr m).trans (Keep.alloc _ _ (.cells #[.int .u8 g] 5))) F;have G:=G;have aa:Hid (Src Tryz.prog 1 22 (.slice (some ⟨(wr.drewN m).heap.size,0,none⟩) 1 1) 1 [.int .u8 g] ((wr.drewN m).alloc (.cells #[.int .u8 g] 5))):=ufS _ _;have Z:=ua (k.1.on (λb hb=>((uI wr m).trans (Keep.alloc _ _ (.cells #[.int .u8 g] 5))).block b hb.2 (λq=>q)));go_wp2_with (at_builtin;refine uaB rfl _ _ 22 22 rfl rfl rfl qI (Q:=New w wr) (n:=z.length) (cs:=uV .u8 (lf z) z.length) (m:=1) (news:=[.int .u8 g]) Z aa (by omega) ?_;intro A o E D ac;have Y:Hid _:=G A o E D;clear E D ac);go_roundw;all_goals first
    |exact Y
    |(simp[intOf];omega)
    |omega
  omega
def ubR(W:World)(cs:Array Value):World:=(W.alloc (.cells cs 5)).freeze ⟨W.heap.size,cs.size,none⟩ 1
theorem uoc W cs k c:(convert 22 22 (.slice (some ⟨W.heap.size,0,none⟩) k c)).run Tryz.prog (W.alloc (.cells cs 5))=.ok (.slice (some ⟨W.heap.size,0,none⟩) k c) (ubR W cs):=by
 have a:(W.alloc (.cells cs 5)).shape? W.heap.size=some (5,cs.size):=by
  simp[World.shape?,World.alloc,-World.alloc_eq]
 simp[convert,run_underlying Tryz.underlying22,run_underlying Tryz.underlying5,markStringish,a,ubR,Result.andThen]
theorem ulR W cs j(b:j<W.heap.size):(ubR W cs).heap[j]?=W.heap[j]?:=by
 have a:W.heap.size≠j:=by omega
 simp[ubR,World.freeze,World.alloc,-World.alloc_eq,Array.getElem?_modify,Array.getElem?_push,a,Ne.symm a]
theorem ugv W cs:(ubR W cs).heap[W.heap.size]?=some (.cells cs 5 (cs.size,cs.size+1)):=by
 simp[ubR,World.freeze,World.alloc,-World.alloc_eq];rw[Array.getElem_modify_self];simp
theorem ueD W cs:(ubR W cs).heap.size=W.heap.size+1:=by
 simp[ubR,World.freeze,World.alloc,-World.alloc_eq]
theorem ukq W cs:Keep (λ_=>False) W (ubR W cs):=⟨rfl,rfl,rfl,by rw[ueD];omega,λb a _=>ulR W cs b a⟩
theorem ueE W cs j:(ubR W cs).cell? ⟨W.heap.size,j,none⟩=cs[j]?:=by
 simp only[World.cell?,ugv];simp
theorem ugw W cs j(a:j<cs.size):(ubR W cs).frozen? ⟨W.heap.size,j,none⟩=false:=by
 simp only[World.frozen?,ugv];simp;omega
theorem up2{ops:Array Oper}{rest o a b W cs k c}(e:o.guard=none)x(f:o.op=.convert 22 22 x)(i:a.eval x=.slice (some ⟨W.heap.size,0,none⟩) k c)(h:∀w',w'=ubR W cs->wpList Tryz.prog ops b rest (a.put o.dst (.slice (some ⟨W.heap.size,0,none⟩) k c)) w'):wpList Tryz.prog ops b (o::rest) a (W.alloc (.cells cs 5)):=by
 refine wpList_plain e λK d=>?_
 have g:=uoc W cs k c;unfold Oper.wp execOp;simp only[f,Sem.run_bind,Sem.run_pure,Result.andThen_ok,i,g];exact d _ _ (h _ rfl)
end Go.Proofs.YtpghlcdkfldlpaaGreat
