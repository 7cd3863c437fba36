import Derived.Test.YtoihadcablknpaaGreatDoorT02
set_option linter.unusedVariables false
set_option linter.unusedSimpArgs false
set_option linter.defProp false
set_option maxHeartbeats 40000000
set_option maxRecDepth 100000
namespace Go.Proofs.YtoihadcablknpaaGreatDoor
open Go.RowKit
open Go.Proofs.Tryz
def Pb(k:Nat):Int:=if k<10 then 48+k else 87+k
def Pd(k:Nat):Int:=if k<10 then 48+k else 55+k
def D7{c k}(b:k<16)(h:c=Pb k\/c=Pd k):Jv c=some k:=by
 unfold Pb Pd at h;unfold Jv;by_cases a:k<10
 ·simp only[Zp a,or_self]at h;rw[Zp oM];congr 1;omega
 simp only[Zn a]at h;rcases h with h|h
 ·rw[Zn oM,Zp oM];congr 1;omega
 rw[Zn oM,Zn oM,Zp oM];congr 1;omega
def Yr{c k}(h:Jv c=some k):k<16/\(c=Pb k\/c=Pd k):=by
 unfold Jv at h;unfold Pb Pd;by_cases a:48<=c/\c<=57
 ·rw[Zp a]at h;injection h with h;subst h;refine⟨oM,.inl ?_⟩;rw[Zp oM];omega
 rw[Zn a]at h;by_cases b:97<=c/\c<=102
 ·rw[Zp b]at h;injection h with h;subst h;refine⟨oM,.inl ?_⟩;rw[Zn oM];omega
 rw[Zn b]at h;by_cases d:65<=c/\c<=70
 ·rw[Zp d]at h;injection h with h;subst h;refine⟨oM,.inr ?_⟩;rw[Zn oM];omega
 rw[Zn d]at h;cases h
def IK{c k}(h:Jv c=some k):xw c=k:=by unfold xw;rw[h]
def IL{c}(h:Jv c=none):xw c = -1:=by unfold xw;rw[h]
def Tw c : -1<=xw c/\xw c<=15:=by
 cases h:Jv c with
 |none=>rw[IL h];omega
 |some k=>rw[IK h];have:=(Yr h).1;omega
def IM c w(l:0<=c)(m:c<=255) :
  Cs 191 #[Bv c] w λe w'=>e=Rt (Iv (xw c))/\w'=w:=by
 go_enter func191,ntmps191;go_wp2;go_loopw [5] (λi wr=>∃k:Nat,k<=16/\i=Iv k/\wr=w/\∀x,Jv c=some x->k<=x) (λi _=>16-(intOf i).toNat)
 ·exact⟨0,wP,rfl,rfl,λx _=>wP⟩
 obtain⟨k,n,rfl,rfl,a⟩:=hrel;have d:=ua a;by_cases j:k<16
 ·have b:Hid (c=Pb k\/c=Pd k->xw c=k):=λh=>IK (D7 j h)
  have f:Hid (c≠Pb k->c≠Pd k->∀x,Jv c=some x->k+1<=x):=λh g x a=>by
   have:=d x a;have:=(Yr a).2;by_cases e:x=k
   ·subst e;exact aB ‹_\/_› (λq=>q.elim h g)
   omega
  rcases(show k=0\/k=1\/k=2\/k=3\/k=4\/k=5\/k=6\/k=7\/k=8\/k=9\/k=10\/k=11\/k=12\/k=13\/k=14\/k=15 by omega) with rfl|rfl|rfl|rfl|rfl|rfl|rfl|rfl|rfl|rfl|rfl|rfl|rfl|rfl|rfl|rfl;all_goals go_wp2
  all_goals first
   |(go_ret;rename_i h;exact⟨uW (b (.inl (h.symm.trans rfl))).symm,rfl⟩)
   |(go_ret;rename_i h;exact⟨uW (b (h.elim (λq=>.inl ((eq_of_beq q).symm.trans rfl)) (λq=>.inr ((eq_of_beq q).symm.trans rfl)))).symm,rfl⟩)
   |(rename_i h;refine⟨⟨_,?_,rfl,trivial,f (λq=>?_) (λq=>?_)⟩,by simp[intOf]⟩;decide;(subst q;exact aB h.1 dC);(subst q;exact aB h.2 dC))
 obtain rfl:k=16:=oM;go_wp2;go_ret;refine⟨uW ?_,rfl⟩;cases h:Jv c with
 |none=>exact(IL h).symm
 |some x=>have:=d x h;have:=(Yr h).1;omega
def Nm(x y:Int)(w:Wl)(e:Ending)(w':Wl):Prop:=e=Rt (.tuple #[Iv x,Iv y])/\∃m,w'=w.drewN m
def xG{x y w}:Nm x y w (Rt (.tuple #[Iv x,Iv y])) w:=⟨rfl,0,rfl⟩
def Do.j{Q t a w}(h:Do Q w a t)m:Do Q (w.drewN m) a t:=wB.q h (zB (wI w) m)
def Nn{x}(h:0<=x)(a:x<=4000000):IntKind.i64.wrap x=x:=by
 unfold IntKind.wrap;have b:x%(2 ^ IntKind.i64.bits:Int)=x:=Int.emod_eq_of_lt h (Int.lt_of_le_of_lt a dC);have c:¬(x ≥ (2 ^ (IntKind.i64.bits-1):Int)):=λq=>aB (Int.le_trans q a) dC
 simp only[b,c,decide_false,Bool.and_false,Zn,Kr,not_false_iff]
def C2 Q t a c i w(z:Do Q w a t)(L:i<=t.n) :
  Cs 154 #[Sl a t.n c,Iv i] w (Nm (Gf t i).1 ((Gf t i).2:Nat) w):=by
 have N:=t.le;unfold Gf;by_cases D:t.n<=i+1
 ·rw[Zp (.inl D)];have E:(t.n:Int)<=(i:Int)+1:=oM;go_enter func154,ntmps154;go_wp2;go_ret2;exact xG
 have E:¬(t.n:Int)<=(i:Int)+1:=oM;obtain⟨b,off,rfl,O,h⟩:=z.at (i:=i) oM;have F:=h i oM;have P:=h (i+1) oM;have b1:=t.j (i+1);by_cases g:t.T i=92
 ·rw[Zn oM];rw[g]at F;have r:=ua h;have o:=ua t.j;clear h z;generalize t.T (i+1)=x at *;by_cases k:x=110
  ·subst k;go_enter func154,ntmps154;go_wp2;go_ret2;exact xG
  by_cases l:x=116
  ·subst l;go_enter func154,ntmps154;go_wp2;go_ret2;exact xG
  by_cases m:x=114
  ·subst m;go_enter func154,ntmps154;go_wp2;go_ret2;exact xG
  rw[Zn k,Zn l,Zn m];have x1':(x==110)=false:=by simpa using k
  have x2':(x==116)=false:=by simpa using l
  have x3':(x==114)=false:=by simpa using m
  by_cases d:Nq x
  ·rw[Zp d];rcases d with rfl|rfl|rfl|rfl|rfl|rfl;all_goals (
    go_enter func154,ntmps154;go_wp2;go_ret2;exact xG)
  rw[Zn d];obtain⟨y1,y2,G,H,I,J⟩:(x==92)=false/\(x==34)=false/\(x==91)=false/\(x==93)=false/\(x==45)=false/\(x==94)=false:=by
   unfold Nq at d;simp only[not_or]at d;simpa using d
  clear d;by_cases u:x=120
  ·subst u;by_cases A:i+3<t.n
   ·have x6':(i:Int)+3<(t.n:Int):=oM;have U:(i:Int)+2<(t.n:Int):=oM;have v2:IntKind.i64.wrap ((i:Int)+2)=((i+2:Nat):Int):=(Nn oM oM).trans oM;have v3:IntKind.i64.wrap ((i:Int)+3)=((i+3:Nat):Int):=(Nn oM oM).trans oM;have v4:(0:Int)<=(i:Int)+2:=oM;have v5:(0:Int)<=(i:Int)+3:=oM;have v6:((i:Int)+2).toNat=i+2:=oM;have v7:((i:Int)+3).toNat=i+3:=oM;have R:=r (i+2) oM;have S:=r (i+3) oM;have v:=o (i+2);have y:=o (i+3);have f:Hid (∀w,Cs 191 #[Bv (t.T (i+2))] w λe w'=>e=Rt (Iv (xw (t.T (i+2))))/\w'=w):=λw=>IM _ w v.1 v.2
    have s:Hid (∀w,Cs 191 #[Bv (t.T (i+3))] w λe w'=>e=Rt (Iv (xw (t.T (i+3))))/\w'=w):=λw=>IM _ w y.1 y.2
    have V:=Tw (t.T (i+2));have X:=Tw (t.T (i+3));generalize xw (t.T (i+2))=p at *;generalize xw (t.T (i+3))=q at *;generalize t.T (i+2)=u2 at *;generalize t.T (i+3)=u3 at *;clear r o k l m x1' x2' x3' y1 y2 G H I J g;by_cases B:0<=p
    ·by_cases C:0<=q
     ·rw[Zp ⟨rfl,A,B,C⟩];go_enter func154,ntmps154;go_wp2_with fail;refine(f _).mono ?_;rintro e W ⟨rfl,rfl⟩;go_wp2_with fail;refine(s _).mono ?_;rintro e W ⟨rfl,rfl⟩;go_wp2;go_quiet (first|(go_at_call_of 191 (Bv u2);exact Fz (f _))|(go_at_call_of 191 (Bv u3);exact Fz (s _)));go_wp2;go_ret2;exact⟨rfl,_,rfl⟩
     rw[Zn (λq=>C q.2.2.2)];go_enter func154,ntmps154;go_wp2_with fail;refine(f _).mono ?_;rintro e W ⟨rfl,rfl⟩;go_wp2_with fail;refine(s _).mono ?_;rintro e W ⟨rfl,rfl⟩;go_wp2;go_ret2;exact xG
    rw[Zn (λq=>B q.2.2.1)];go_enter func154,ntmps154;go_wp2_with fail;refine(f _).mono ?_;rintro e W ⟨rfl,rfl⟩;go_wp2;go_ret2;exact xG
   rw[Zn (λq=>A q.2.1)];have x6':¬(i:Int)+3<(t.n:Int):=oM;go_enter func154,ntmps154;go_wp2;go_ret2;exact xG
  rw[Zn (λq=>u q.1)];have x5':(x==120)=false:=by simpa using u
  go_enter func154,ntmps154;go_wp2;go_ret2;exact xG
 rw[Zp (.inr g)];have c1':(t.T i==92)=false:=by simpa using g
 go_enter func154,ntmps154;go_wp2;go_ret2;exact xG
def Zf Q t a c i cls w(g:Do Q w a t)(v:i<=t.n) :
  Cs 121 #[Sl a t.n c,Iv i,.bool cls] w (Nm (zH t i cls).1 ((zH t i cls).2:Nat) w):=by
 have z:=t.le;unfold zH;by_cases p:t.n<=i
 ·rw[Zp (.inl p)];have s:(t.n:Int)<=(i:Int):=oM;go_enter func121,ntmps121;go_wp2;go_ret2;exact xG
 have s:¬(t.n:Int)<=(i:Int):=oM;have l:Hid (∀w,Do Q w a t->Cs 154 #[Sl a t.n c,Iv i] w (Nm (Gf t i).1 ((Gf t i).2:Nat) w)):=λw h=>C2 Q t a c i w h v
 have o:=ua g;obtain⟨b,off,rfl,A,u⟩:=g.at (i:=i) oM;have B:=u i oM;have y:=t.j i;generalize t.T i=x at *;by_cases k:x=10
 ·subst k;rw[Zp (.inr rfl)];go_enter func121,ntmps121;go_wp2;go_ret2;exact xG
 have x1':(x==10)=false:=by simpa using k
 rw[Zn oM];by_cases f:x=92
 ·subst f;rw[Zp rfl];generalize Gf t i=r at *;go_enter func121,ntmps121;go_wp2_with fail;refine(l w o).mono ?_;rintro e W ⟨rfl,m,rfl⟩;go_wp2;go_ret2;exact⟨rfl,m,rfl⟩
 rw[Zn f];have x2':(x==92)=false:=by simpa using f
 cases cls with
 |true =>
  by_cases d:x=93\/x=45\/x=94
  ·rw[Zp ⟨rfl,d⟩];rcases d with rfl|rfl|rfl;all_goals (
    go_enter func121,ntmps121;go_wp2;go_ret2;exact xG)
  rw[Zn (λq=>d q.2),Zn (λq=>Bool.noConfusion q.1)];obtain⟨y1,y2,C⟩:(x==93)=false/\(x==45)=false/\(x==94)=false:=by
   simp only[not_or]at d;simpa using d
  go_enter func121,ntmps121;go_wp2;go_ret2;exact xG
 |false =>
  rw[Zn (λq=>Bool.noConfusion q.1)];by_cases d:x=34
  ·subst d;rw[Zp ⟨rfl,rfl⟩];go_enter func121,ntmps121;go_wp2;go_ret2;exact xG
  rw[Zn (λq=>d q.2)];have y1:(x==34)=false:=by simpa using d
  go_enter func121,ntmps121;go_wp2;go_ret2;exact xG
def KC Q t a c i w(C:Do Q w a t)(D:i<=t.n) :
  Cs 54 #[Sl a t.n c,Iv i] w λe w'=>e=Rt (Iv (skip t i:Nat))/\w'=w:=by
 have J:=t.le;have B:=ua C;go_enter func54,ntmps54;go_wp2;go_loopw [1] (λu wr=>∃k:Nat,k<=t.n/\u=Iv k/\wr=w/\skip t k=skip t i) (λu _=>t.n-(intOf u).toNat)
 ·exact⟨i,D,rfl,rfl,rfl⟩
 obtain⟨k,E,rfl,rfl,v⟩:=hrel;have f:=ua v;have d:=ua (IU t k);by_cases h:k<t.n
 ·have hlt':(k:Int)<t.n:=oM;obtain⟨b,off,rfl,L,s⟩:=B.at h;have F:=s k h;have H:=t.j k;have z:=Tz t h;have y:=ua s;clear s;by_cases m:Mm (t.T k)
  ·have g:Hid (skip t (k+1)=skip t i):=(by show _=_;rw[<-f.o,d.o,Zp h,Zp m]);clear f d z y;generalize t.T k=x at *;rcases m with rfl|rfl|rfl|rfl;all_goals (
    go_wp2;go_roundw
    ·exact⟨k+1,h,by go_num,by trivial,g⟩
    simp[intOf];omega)
  by_cases o:t.T k=35
  ·have g:Hid (skip t (jj t k)=skip t i):=(by show _=_;rw[<-f.o,d.o,Zp h,Zn m,Zp o]);have HG':=ua (z o);rw[o]at F;go_wp2;go_loopw [1] (λu w'=>∃j:Nat,k<=j/\j<=t.n/\u=Iv j/\w'=wr/\jj t j=jj t k) (λu _=>t.n-(intOf u).toNat)
   ·exact⟨k,wF,E,rfl,rfl,rfl⟩
   obtain⟨j,I,A,rfl,rfl,v⟩:=hrel;have f:=ua v;have d:=ua (Yw t j);by_cases r:j<t.n
   ·have hjl':(j:Int)<t.n:=oM;have G:=y j r;have b1:=t.j j;by_cases p:t.T j=10
    ·have l:Hid (j=jj t k):=(by show _=_;rw[<-f.o,d.o,Zn (λq=>q.2 p)]);rw[p]at G;go_wp2;go_roundw
     ·exact⟨j,A,rfl,by trivial,by rw[l.o];exact g⟩
     have:=l.o;have:=HG'.o;simp[intOf];omega
    have l:Hid (jj t (j+1)=jj t k):=(by show _=_;rw[<-f.o,d.o,Zp ⟨r,p⟩]);have y1:(t.T j==10)=false:=(by simpa using p);go_wp2;go_roundw
    ·exact⟨j+1,oM,r,by go_num,by trivial,l⟩
    simp[intOf];omega
   have l:Hid (j=jj t k):=(by show _=_;rw[<-f.o,d.o,Zn (λq=>r q.1)]);have hjl':¬(j:Int)<t.n:=oM;go_wp2;go_roundw
   ·exact⟨j,A,rfl,by trivial,by rw[l.o];exact g⟩
   have:=l;have:=HG';simp[intOf];omega
  obtain⟨y1,y2,N,O⟩:(t.T k==32)=false/\(t.T k==9)=false/\(t.T k==13)=false/\(t.T k==10)=false:=by
   unfold Mm at m;simp only[not_or]at m;simpa using m
  have P:(t.T k==35)=false:=by simpa using o
  have g:Hid (k=skip t i):=by show _=_;rw[<-f.o,d.o,Zp h,Zn m,Zn o]
  go_wp2;go_ret;exact⟨uW (by rw[<-g.o]),rfl⟩
 obtain rfl:k=t.n:=oM;have g:Hid (t.n=skip t i):=by show _=_;rw[<-f.o,d.o,Zn h]
 go_wp2;go_ret;exact⟨uW (by rw[<-g.o]),rfl⟩
end Go.Proofs.YtoihadcablknpaaGreatDoor
