import Derived.Test.YtcbnnfnlilbjeaaGreatT01
set_option linter.unusedVariables false
set_option linter.unusedSimpArgs false
namespace Go.Proofs.YtcbnnfnlilbjeaaGreat
section
open Go.RowKit
theorem iffT{P:Prop}(h:P):(true=true↔P):=⟨fun _=>h,fun _=>rfl⟩
theorem iffF{P:Prop}(h:¬P):(false=true↔P):=⟨(fun e=>absurd e (by decide)),fun q=>absurd q h⟩
def Says(P:Prop)(w:World)(e:Ending)(w':World):Prop:=(∃r:Bool,e=.returned (.bool r)∧(r=true↔P))∧w=w'
def SaysB(P:Prop)(w:World)(e:Ending)(w':World):Prop:=(∃r:Bool,e=.returned (.bool r)∧(r=true↔P))∧Below w.heap.size w w'
theorem Says.b{P:Prop}{w w':World}{e:Ending}(h:Says P w e w'):SaysB P w e w':=by
 obtain⟨h1,rfl⟩:=h;exact⟨h1,Below.refl _ _⟩
theorem letter_cases(c:Int):c<65∨(65≤c∧c≤90)∨(90<c∧c<95)∨c=95∨c=96∨(97≤c∧c≤122)∨122<c:=by omega
theorem digit_cases(c:Int):c<48∨(48≤c∧c≤57)∨57<c:=by omega
set_option maxHeartbeats 1000000 in
theorem beginsName_any(c:Int)(w:World)(h0:0≤c)(h1:c≤255) :
  Calls Tryz.prog 98 #[.int .u8 c] w (Says (M.Letter c) w):=by
 rcases letter_cases c with h | ⟨h,h'⟩|⟨h,h'⟩ | h | h | ⟨h,h'⟩ | h
 all_goals (try subst h)
 all_goals (
  go_enter Tryz.func98,Tryz.ntmps98;go_wp2;go_ret;exact⟨⟨_,rfl,by simp[M.Letter]<;>omega⟩,rfl⟩)
set_option maxHeartbeats 1000000 in
theorem l2letter_any(c:Int)(w:World)(h0:0≤c)(h1:c≤255) :
  Calls Tryz.prog 34 #[.int .u8 c] w (Says (M.Letter c) w):=by
 rcases letter_cases c with h | ⟨h,h'⟩|⟨h,h'⟩ | h | h | ⟨h,h'⟩ | h
 all_goals (try subst h)
 all_goals (
  go_enter Tryz.func34,Tryz.ntmps34;go_wp2;go_ret;exact⟨⟨_,rfl,by simp[M.Letter]<;>omega⟩,rfl⟩)
set_option maxHeartbeats 1000000 in
theorem l2digit_any(c:Int)(w:World)(h0:0≤c)(h1:c≤255) :
  Calls Tryz.prog 35 #[.int .u8 c] w (Says (M.Digit c) w):=by
 rcases digit_cases c with h | ⟨h,h'⟩ | h
 all_goals (
  go_enter Tryz.func35,Tryz.ntmps35;go_wp2;go_ret;exact⟨⟨_,rfl,by simp[M.Digit]<;>omega⟩,rfl⟩)
set_option maxHeartbeats 1000000 in
theorem continuesName_any(c:Int)(w:World)(h0:0≤c)(h1:c≤255) :
  Calls Tryz.prog 97 #[.int .u8 c] w (Says (M.Letter c∨M.Digit c) w):=by
 by_cases hl:M.Letter c
 ·have HL:Hid (M.Letter c):=hl
  clear hl;go_enter Tryz.func97,Tryz.ntmps97;go_wp2_with (go_at_call 98;refine (beginsName_any c _ h0 h1).mono ?_;rintro e W ⟨⟨r,rfl,hr⟩,hw⟩;subst W;obtain rfl:r=true:=hr.2 HL.out;clear hr);go_ret;exact⟨⟨true,rfl,iffT (.inl HL.out)⟩,rfl⟩
 ·have HL:Hid (¬M.Letter c):=hl
  clear hl;rcases digit_cases c with h | ⟨h,h'⟩ | h
  all_goals (
   go_enter Tryz.func97,Tryz.ntmps97;go_wp2_with (go_at_call 98;refine (beginsName_any c _ h0 h1).mono ?_;rintro e W ⟨⟨r,rfl,hr⟩,hw⟩;subst W;obtain rfl:r=false:=by { cases r;rfl;exact absurd (hr.1 rfl) HL.out };clear hr)
   go_ret;exact⟨⟨_,rfl,by simp[HL.out,M.Digit]<;>omega⟩,rfl⟩)
theorem kind_cases(k:Int):k<4∨k=4∨k=5∨k=6∨k=7∨7<k:=by omega
set_option maxHeartbeats 1000000 in
theorem operandsOf_any(k:Int)(w:World) :
  Calls Tryz.prog 101 #[.int .i64 k] w fun e w'=>e=.returned (.int .i64 (M.ar k))∧w=w':=by
 rcases kind_cases k with h | h | h | h | h | h
 all_goals (try subst h)
 all_goals (
  try (
   have e4:(k==4)=false:=by simp;omega
   have e5:(k==5)=false:=by simp;omega
   have e6:(k==6)=false:=by simp;omega
   have e7:(k==7)=false:=by simp;omega)
  go_enter Tryz.func101,Tryz.ntmps101;go_wp2;go_ret;exact⟨ret_int (by unfold M.ar;first|rfl|(rw[if_neg (by omega),if_neg (by omega)])),rfl⟩)
set_option maxHeartbeats 1000000 in
theorem l2arity_any(k:Int)(w:World) :
  Calls Tryz.prog 66 #[.int .i64 k] w fun e w'=>e=.returned (.int .i64 (M.ar k))∧w=w':=by
 rcases kind_cases k with h | h | h | h | h | h
 all_goals (try subst h)
 all_goals (
  try (
   have e4:(k==4)=false:=by simp;omega
   have e5:(k==5)=false:=by simp;omega
   have e6:(k==6)=false:=by simp;omega
   have e7:(k==7)=false:=by simp;omega)
  go_enter Tryz.func66,Tryz.ntmps66;go_wp2;go_ret;exact⟨ret_int (by unfold M.ar;first|rfl|(rw[if_neg (by omega),if_neg (by omega)])),rfl⟩)
end
section
open Go.RowKit
theorem odd_rem(n:Nat)(h:n%2=1):((n:Int)%2 != 0)=true:=by
 have:(n:Int)%2=1:=by omega
 rw[this];decide
theorem even_rem(n:Nat)(h:n%2=0):((n:Int)%2 != 0)=false:=by
 have:(n:Int)%2=0:=by omega
 rw[this];decide
theorem rem1_t(n:Nat)(h:n%2=1):((n:Int)%2==1)=true:=by
 have:(n:Int)%2=1:=by omega
 rw[this];decide
theorem rem1_f(n:Nat)(h:n%2=0):((n:Int)%2==1)=false:=by
 have:(n:Int)%2=0:=by omega
 rw[this];decide
theorem rem0_t(n:Nat)(h:n%2=0):((n:Int)%2==0)=true:=by
 have:(n:Int)%2=0:=by omega
 rw[this];decide
theorem rem0_f(n:Nat)(h:n%2=1):((n:Int)%2==0)=false:=by
 have:(n:Int)%2=1:=by omega
 rw[this];decide
theorem least_next(S:Nat→Int)(k:Nat):M.least S (k+1)=S (2*k+1)+2:=by
 unfold M.least;rw[if_neg (by omega),show 2*(k+1)-1=2*k+1 by omega]
theorem val_int{k:IntKind}{a b:Int}(h:a=b):Value.int k a=.int k b:=by rw[h]
theorem canon_all(n:Nat)(S:Nat→Int)(k:Nat)(h:2*k=n)(hp:∀j,j<k→M.PairOK S j):M.Canon n S :=
 ⟨by omega,fun i hi=>(M.pairs_canon S k).1 hp i (by omega)⟩
theorem canon_not(n:Nat)(S:Nat→Int)(k:Nat)(h:2*k<n)(hp:¬M.PairOK S k):¬M.Canon n S:=fun q =>
 hp ((M.pairs_canon S (n / 2)).2 (fun i hi=>q.2 i (by omega)) k (by have:=q.1;omega))
def pairsI(w:World)(n:Nat)(S:Nat→Int)(l i:Value)(wr:World):Prop :=
 ∃k d:Nat,2*k≤n∧l=.int .i64 (M.least S k)∧i=.int .i64 ((2*k:Nat):Int)∧wr=w.drewN d∧(∀j,j<k→M.PairOK S j)∧0≤M.least S k∧M.least S k≤257
set_option maxHeartbeats 1000000 in
theorem isCanonical_any(Q:Nat→Prop)(a:Option Addr)(n c:Nat)(S:Nat→Int)(w:World)(hS:Ints Q .i64 w a n S)(hn:n≤1048576) :
  Calls Tryz.prog 111 #[.slice a n c] w (SaysB (M.Canon n S) w):=by
 rcases (Nat.mod_two_eq_zero_or_one n).symm with he | he
 ·have t:=odd_rem n he
  go_enter Tryz.func111,Tryz.ntmps111;go_wp2;go_ret;exact⟨⟨false,rfl,iffF fun q=>by have:=q.1;omega⟩,Below.refl _ _⟩
 have t:=even_rem n he;go_enter Tryz.func111,Tryz.ntmps111;go_wp2;go_loopw [3,4] (fun l i wr=>pairsI w n S l i wr) (fun l i _=>n-(intOf i).toNat)
 case atStart=>exact⟨0,0,by omega,rfl,rfl,rfl,fun j hj=>absurd hj (Nat.not_lt_zero _),by simp[M.least],by simp[M.least]⟩
 case round =>
  obtain⟨k,d,hk,rfl,rfl,rfl,hall,hl0,hl1⟩:=hrel;have HA:Hid (∀j,j<k→M.PairOK S j):=hall;clear hall;by_cases hlt:2*k<n
  ·rcases hS with h0 | ⟨b,off,rfl,hq,hS⟩
   ·omega
   have hc1:=hS (2*k) hlt;have hc2:=hS (2*k+1) (by omega)
   have i1:((2*k+1:Nat):Int)=((2*k:Nat):Int)+1:=by omega
   have lt1:((2*k:Nat):Int)<(n:Int):=by omega
   have lt2:((2*k:Nat):Int)+1<(n:Int):=by omega
   by_cases c1:S (2*k)<M.least S k
   ·go_wp2_with fail
    go_quiet (fail);go_wp2;go_ret;exact⟨⟨false,rfl,iffF (canon_not n S k hlt fun q=>by have:=q.1;omega)⟩,by first|exact below_drewN (Below.refl _ _) _ | exact below_drewN (below_drewN (Below.refl _ _) _) _ | exact below_drewN (below_drewN (below_drewN (Below.refl _ _) _) _) _⟩
   by_cases c2:S (2*k+1)<S (2*k)
   ·go_wp2_with fail
    go_quiet (fail);go_wp2;go_ret;exact⟨⟨false,rfl,iffF (canon_not n S k hlt fun q=>by have:=q.2.1;omega)⟩,by first|exact below_drewN (Below.refl _ _) _ | exact below_drewN (below_drewN (Below.refl _ _) _) _ | exact below_drewN (below_drewN (below_drewN (Below.refl _ _) _) _) _⟩
   by_cases c3:255<S (2*k+1)
   ·go_wp2_with fail
    go_quiet (fail);go_wp2;go_ret;exact⟨⟨false,rfl,iffF (canon_not n S k hlt fun q=>by have:=q.2.2;omega)⟩,by first|exact below_drewN (Below.refl _ _) _ | exact below_drewN (below_drewN (Below.refl _ _) _) _ | exact below_drewN (below_drewN (below_drewN (Below.refl _ _) _) _) _⟩
   go_wp2_with fail;go_quiet (fail);go_wp2;go_roundw
   case rel =>
    refine⟨k+1,_,by omega,val_int (least_next S k).symm,by go_num,rfl,fun j hj=>?_,?_,?_⟩
    ·by_cases e:j=k
     ·subst e;exact⟨by omega,by omega,by omega⟩
     ·exact HA.out j (by omega)
    ·rw[least_next];omega
    ·rw[least_next];omega
   case measure=>simp[intOf];omega
  ·have e2:2*k=n:=by omega
   have HE:Hid (2*k=n):=e2;have nlt:¬((2*k:Nat):Int)<(n:Int):=by omega
   clear e2;go_wp2;go_ret;exact⟨⟨true,rfl,iffT (canon_all n S k HE.out HA.out)⟩,by first|exact below_drewN (Below.refl _ _) _ | exact below_drewN (below_drewN (Below.refl _ _) _) _ | exact below_drewN (below_drewN (below_drewN (Below.refl _ _) _) _) _⟩
def canonI(w:World)(n:Nat)(S:Nat→Int)(i:Value)(wr:World):Prop :=
 ∃k d:Nat,k≤n∧i=.int .i64 (k:Int)∧wr=w.drewN d∧∀j,j<k→M.CanAt S j
theorem not_canon{n:Nat}{S:Nat→Int}{k:Nat}(hk:k<n)(h:¬M.CanAt S k):¬M.Canon n S:=fun q=>h (q.2 k hk)
set_option maxHeartbeats 2000000 in
theorem l2canon_any(Q:Nat→Prop)(a:Option Addr)(n c:Nat)(S:Nat→Int)(w:World)(hS:Ints Q .i64 w a n S)(hn:n≤1048576) :
  Calls Tryz.prog 36 #[.slice a n c] w (SaysB (M.Canon n S) w):=by
 rcases (Nat.mod_two_eq_zero_or_one n).symm with he | he
 ·have t:=odd_rem n he
  go_enter Tryz.func36,Tryz.ntmps36;go_wp2;go_ret;exact⟨⟨false,rfl,iffF fun q=>by have:=q.1;omega⟩,Below.refl _ _⟩
 have t:=even_rem n he;go_enter Tryz.func36,Tryz.ntmps36;go_wp2;go_loopw [3] (fun i wr=>canonI w n S i wr) (fun i _=>n-(intOf i).toNat)
 case atStart=>exact⟨0,0,by omega,rfl,rfl,fun j hj=>absurd hj (Nat.not_lt_zero _)⟩
 case round =>
  obtain⟨k,d,hk,rfl,rfl,hall⟩:=hrel;have HA:Hid (∀j,j<k→M.CanAt S j):=hall;clear hall;by_cases hlt:k<n
  ·rcases hS with h0 | ⟨b,off,rfl,hq,hS⟩
   ·omega
   have hc1:=hS k hlt;have lt1:(k:Int)<(n:Int):=by omega
   by_cases c1:S k<0
   ·go_wp2
    go_ret;exact⟨⟨false,rfl,iffF (not_canon hlt fun q=>by have:=q.1;omega)⟩,by first|exact below_drewN (Below.refl _ _) _ | exact below_drewN (below_drewN (Below.refl _ _) _) _ | exact below_drewN (below_drewN (below_drewN (Below.refl _ _) _) _) _⟩
   by_cases c2:255<S k
   ·go_wp2
    go_ret;exact⟨⟨false,rfl,iffF (not_canon hlt fun q=>by have:=q.2.1;omega)⟩,by first|exact below_drewN (Below.refl _ _) _ | exact below_drewN (below_drewN (Below.refl _ _) _) _ | exact below_drewN (below_drewN (below_drewN (Below.refl _ _) _) _) _⟩
   by_cases hz:k=0
   ·subst hz
    rw[Nat.add_zero]at hc1;go_wp2_with fail;go_quiet (fail);go_wp2_with fail;go_quiet (fail);go_wp2;go_roundw
    case rel =>
     refine⟨1,_,by omega,by go_num,rfl,fun j hj=>?_⟩
     obtain rfl:j=0:=by omega
     exact⟨by omega,by omega,fun h=>by omega,fun h=>by omega⟩
    case measure=>simp[intOf];omega
   obtain⟨p,hp1⟩:∃p,k=p+1:=⟨k-1,by omega⟩
   have HP:Hid (k=p+1):=hp1;have hkp:(0:Int)<(k:Int):=by omega
   have hkn:0<k:=by omega
   have hc0:=hS p (by have:=HP.out;omega)
   have hp:=HA.out p (by have:=HP.out;omega)
   have b0:=hp.1;have b1:=hp.2.1;clear hp;have em:(k:Int)-1=(p:Int):=by omega
   clear hp1;rcases Nat.mod_two_eq_zero_or_one k with hm | hm
   ·have m1:=rem1_f k hm
    have m0:=rem0_t k hm;by_cases c3:S k<S p+2
    ·go_wp2_with fail
     go_quiet (fail);go_wp2_with fail;go_quiet (fail);go_wp2;go_ret;exact⟨⟨false,rfl,iffF (not_canon hlt fun q=>by have:=q.2.2.2 ⟨by omega,hm⟩;rw[HP.out]at this c3;simp at this;omega)⟩,by first|exact below_drewN (Below.refl _ _) _ | exact below_drewN (below_drewN (Below.refl _ _) _) _ | exact below_drewN (below_drewN (below_drewN (Below.refl _ _) _) _) _⟩
    ·go_wp2_with fail
     go_quiet (fail);go_wp2_with fail;go_quiet (fail);go_wp2;go_roundw
     case rel =>
      refine⟨k+1,_,by omega,by go_num,rfl,fun j hj=>?_⟩
      by_cases e:j=k
      ·subst j;exact⟨by omega,by omega,fun h=>by omega,fun h=>by rw[HP.out]at c3 ⊢;simp;omega⟩
      ·exact HA.out j (by omega)
     case measure=>simp[intOf];omega
   ·have m1:=rem1_t k hm
    have m0:=rem0_f k hm;by_cases c3:S k<S p
    ·go_wp2_with fail
     go_quiet (fail);go_wp2;go_ret;exact⟨⟨false,rfl,iffF (not_canon hlt fun q=>by have:=q.2.2.1 hm;rw[HP.out]at this c3;simp at this;omega)⟩,by first|exact below_drewN (Below.refl _ _) _ | exact below_drewN (below_drewN (Below.refl _ _) _) _ | exact below_drewN (below_drewN (below_drewN (Below.refl _ _) _) _) _⟩
    ·go_wp2_with fail
     go_quiet (fail);go_wp2_with fail;go_quiet (fail);go_wp2;go_roundw
     case rel =>
      refine⟨k+1,_,by omega,by go_num,rfl,fun j hj=>?_⟩
      by_cases e:j=k
      ·subst j;exact⟨by omega,by omega,fun h=>by rw[HP.out]at c3 ⊢;simp;omega,fun h=>by omega⟩
      ·exact HA.out j (by omega)
     case measure=>simp[intOf];omega
  ·obtain rfl:k=n:=by omega
   go_wp2;go_ret;exact⟨⟨true,rfl,iffT ⟨he,HA.out⟩⟩,by first|exact below_drewN (Below.refl _ _) _ | exact below_drewN (below_drewN (Below.refl _ _) _) _ | exact below_drewN (below_drewN (below_drewN (Below.refl _ _) _) _) _⟩
end
section
open Go.RowKit
open M (OpD NodeD Gr)
set_option maxHeartbeats 1000000 in
theorem l2throws_any(Q:Nat→Prop)(a:Option Addr)(n c l:Nat)(B:Nat→OpD)(w:World)(hB:OpsA Q w a n B)(hn:n≤1048576) :
  Calls Tryz.prog 16 #[.slice a n c,.int .i64 l] w (Says (M.Throws n B l) w):=by
 go_enter Tryz.func16,Tryz.ntmps16;go_wp2;go_loopw [5] (fun i wr=>∃k:Nat,k≤n∧i=.int .i64 k∧wr=w∧∀j,j<k→¬((B j).kind=3∧(B j).arg=l)) (fun i _=>n-(intOf i).toNat)
 case atStart=>exact⟨0,Nat.zero_le _,rfl,rfl,fun j hj=>absurd hj (Nat.not_lt_zero _)⟩
 case round =>
  obtain⟨k,hk,rfl,rfl,hall⟩:=hrel;have HA:Hid (∀j,j<k→¬((B j).kind=3∧(B j).arg=l)):=hall;clear hall;by_cases hlt:k<n
  ·rcases hB with h0 | ⟨b,off,rfl,hq,hB⟩
   ·omega
   obtain⟨c0,⟨sa,sc,c1,hs⟩,c2⟩:=hB k hlt;clear hs;by_cases e3:(B k).kind=3
   ·have f3:((B k).kind==3)=true:=by simp[e3]
    have E3:Hid ((B k).kind=3):=e3;clear e3;by_cases e4:(B k).arg=l
    ·have f4:((B k).arg==(l:Int))=true:=by simp[e4]
     have E4:Hid ((B k).arg=l):=e4;clear e4;go_wp2;go_ret;exact⟨⟨true,rfl,iffT ⟨k,hlt,E3.out,E4.out⟩⟩,rfl⟩
    ·have f4:((B k).arg==(l:Int))=false:=by simp[e4]
     have E4:Hid (¬(B k).arg=l):=e4;clear e4;go_wp2;go_roundw
     case rel=>exact⟨k+1,by omega,by go_num,by trivial,fun j hj=>if e:j=k then e▸fun q=>E4.out q.2 else HA.out j (by omega)⟩
     case measure=>simp[intOf];omega
   ·have f3:((B k).kind==3)=false:=by simp[e3]
    have E3:Hid (¬(B k).kind=3):=e3;clear e3;go_wp2;go_roundw
    case rel=>exact⟨k+1,by omega,by go_num,by trivial,fun j hj=>if e:j=k then e▸fun q=>E3.out q.1 else HA.out j (by omega)⟩
    case measure=>simp[intOf];omega
  ·obtain rfl:k=n:=by omega
   go_wp2;go_ret;exact⟨⟨false,rfl,iffF fun ⟨i,hi,q⟩=>HA.out i hi q⟩,rfl⟩
def shapeI(w:World)(n:Nat)(B:Nat→OpD)(d i:Value)(wr:World):Prop :=
 ∃j:Nat,j≤n∧d=.int .i64 (M.need B n j)∧i=.int .i64 ((n:Int)-1-j)∧wr=w∧∀t,t<j→M.need B n t≠0
set_option maxHeartbeats 1000000 in
theorem l2shape_any(Q:Nat→Prop)(a:Option Addr)(n c:Nat)(B:Nat→OpD)(w:World)(hB:OpsA Q w a n B)(hn:n≤1048576) :
  Calls Tryz.prog 37 #[.slice a n c] w (Says (M.Shape n B) w):=by
 go_enter Tryz.func37,Tryz.ntmps37;go_wp2;go_loopw [3,4] (fun d i wr=>shapeI w n B d i wr) (fun d i _=>(intOf i+1).toNat)
 case atStart=>exact⟨0,Nat.zero_le _,rfl,by simp,rfl,fun j hj=>absurd hj (Nat.not_lt_zero _)⟩
 case round =>
  obtain⟨j,hj,rfl,rfl,rfl,hall⟩:=hrel;have bd:=M.need_bd B n j hall;have HA:Hid (∀t,t<j→M.need B n t≠0):=hall;clear hall;by_cases hlt:j<n
  ·rcases hB with h0 | ⟨b,off,rfl,hq,hB⟩
   ·omega
   obtain⟨p,hp⟩:∃p:Nat,n-1-j=p:=⟨_,rfl⟩;have HP:Hid (n-1-j=p):=hp;have ei:(n:Int)-1-j=p:=by omega
   have hpn:p<n:=by omega
   have hpi:(p:Int)<n:=by omega
   clear hp;rw[ei];obtain⟨c0,⟨sa,sc,c1,hs⟩,c2⟩:=hB p hpn;clear hs;have hst:M.need B n (j+1)=M.need B n j+(M.ar (B p).kind-1):=by rw[M.need,HP.out]
   have har:=M.ar_bd (B p).kind;have HS:Hid (M.need B n (j+1)=M.need B n j+(M.ar (B p).kind-1)):=hst;clear hst;by_cases hz:M.need B n j=0
   ·have fz:(M.need B n j==0)=true:=by simp[hz]
    have HZ:Hid (M.need B n j=0):=hz;clear hz;go_wp2;go_ret;exact⟨⟨false,rfl,iffF fun q=>((M.shape_iff n B).2 q).1 j hlt HZ.out⟩,rfl⟩
   ·have fz:(M.need B n j==0)=false:=by simp[hz]
    have HZ:Hid (¬M.need B n j=0):=hz;clear hz;go_wp2_with (go_at_call 66;refine (l2arity_any _ _).mono ?_;rintro e W ⟨rfl,hw⟩;subst W);go_roundw
    case rel=>exact⟨j+1,by omega,val_int HS.out.symm,val_int (by omega),by trivial,fun t ht=>if e:t=j then e▸HZ.out else HA.out t (by omega)⟩
    case measure=>simp[intOf]<;>omega
  ·obtain rfl:j=n:=by omega
   have ei:(j:Int)-1-j = -1:=by omega
   rw[ei];go_wp2;go_ret;refine⟨⟨_,rfl,?_⟩,rfl⟩;rw[←M.shape_iff];simp only[beq_iff_eq];exact⟨fun q=>⟨HA.out,q⟩,fun q=>q.2⟩
end
section
open Go.RowKit
open M (OpD NodeD Gr)
theorem elem1(nr nb sl:Nat)(S:Nat→Int)(arg:Int):M.ElemOK nr nb ⟨1,sl,S,arg⟩↔arg=0∧M.Canon sl S:=by
 unfold M.ElemOK M.most;constructor
 ·rintro⟨_,_,h,_,h1,h2⟩
  exact⟨by simp at h1 h2;omega,h rfl⟩
 ·rintro⟨rfl,h⟩
  refine⟨?_,?_,fun _=>h,fun q=>absurd rfl q,?_,?_⟩<;>simp
theorem elem2(nr nb sl:Nat)(S:Nat→Int)(arg:Int):M.ElemOK nr nb ⟨2,sl,S,arg⟩↔0≤arg∧arg<nr∧sl=0:=by
 unfold M.ElemOK M.most;simp;omega
theorem elem3(nr nb sl:Nat)(S:Nat→Int)(arg:Int):M.ElemOK nr nb ⟨3,sl,S,arg⟩↔0≤arg∧arg<nb∧sl=0:=by
 unfold M.ElemOK M.most;simp;omega
theorem elem0(nr nb sl:Nat)(S:Nat→Int)(kind arg:Int)(h:kind=0∨kind=4∨kind=5∨kind=6∨kind=7):M.ElemOK nr nb ⟨kind,sl,S,arg⟩↔arg=0∧sl=0:=by
 unfold M.ElemOK M.most;rcases h with rfl | rfl | rfl | rfl | rfl<;>(simp;omega)
theorem elemx(nr nb sl:Nat)(S:Nat→Int)(kind arg:Int)(h:kind<0∨7<kind):¬M.ElemOK nr nb ⟨kind,sl,S,arg⟩:=fun q=>by
 have h1:=q.1;have h2:=q.2.1;simp at h1 h2;omega
theorem elem_cases(k:Int):k=1∨k=2∨k=3∨(k=0∨k=4∨k=5∨k=6∨k=7)∨(k<0∨7<k):=by omega
set_option maxHeartbeats 2000000 in
theorem validElement_any(Q:Nat→Prop)(ra la sa:Option Addr)(nr rc nb lc sl sc:Nat)(S:Nat→Int)(kind arg:Int)(w:World)(hS:Ints Q .i64 w sa sl S)
  (h1:nr≤1048576) (h2:nb≤1048576) (h3:sl≤1048576) :
  Calls Tryz.prog 100 #[.agg #[.slice ra nr rc,.slice la nb lc],.agg #[.int .i64 kind,.slice sa sl sc,.int .i64 arg]] w (SaysB (M.ElemOK nr nb ⟨kind,sl,S,arg⟩) w):=by
 rcases elem_cases kind with rfl | rfl | rfl | hk | hk
 ·by_cases e0:arg=0
  ·subst e0
   have hI:∀o p,Ints Q .i64 ((w.alloc o).alloc p) sa sl S:=fun o p=>hS.later (bel2 w o p)
   go_enter Tryz.func100,Tryz.ntmps100;go_wp2_with (go_at_call 111;refine (isCanonical_any Q sa sl sc S _ (hI _ _) h3).mono ?_;rintro e W ⟨⟨r,rfl,hr⟩,hb⟩;have HR:Hid _:=hr;have HB:Hid _:=hb;clear hr hb);go_ret;exact⟨⟨_,rfl,HR.out.trans ((elem1 nr nb sl S 0).trans ⟨fun q=>q.2,fun q=>⟨rfl,q⟩⟩).symm⟩,bel_tr (bel2 w _ _) HB.out⟩
  ·have f0:(arg==0)=false:=by simp[e0]
   have E0:Hid (¬arg=0):=e0;clear e0;go_enter Tryz.func100,Tryz.ntmps100;go_wp2;go_ret;exact⟨⟨false,rfl,iffF fun q=>E0.out ((elem1 nr nb sl S arg).1 q).1⟩,bel2 w _ _⟩
 ·go_enter Tryz.func100,Tryz.ntmps100
  go_wp2;all_goals go_ret
  all_goals exact⟨⟨_,rfl,by rw[elem2];simp<;>omega⟩,bel2 w _ _⟩
 ·go_enter Tryz.func100,Tryz.ntmps100
  go_wp2;all_goals go_ret
  all_goals exact⟨⟨_,rfl,by rw[elem3];simp<;>omega⟩,bel2 w _ _⟩
 ·rcases hk with rfl | rfl | rfl | rfl | rfl
  all_goals (
   go_enter Tryz.func100,Tryz.ntmps100;go_wp2;all_goals go_ret
   all_goals exact⟨⟨_,rfl,by rw[elem0 _ _ _ _ _ _ (by omega)];simp<;>omega⟩,bel2 w _ _⟩)
 ·have HK:Hid (kind<0∨7<kind):=hk
  have f0:(kind==0)=false:=by simp;omega
  have f1:(kind==1)=false:=by simp;omega
  have f2:(kind==2)=false:=by simp;omega
  have f3:(kind==3)=false:=by simp;omega
  have f4:(kind==4)=false:=by simp;omega
  have f5:(kind==5)=false:=by simp;omega
  have f6:(kind==6)=false:=by simp;omega
  have f7:(kind==7)=false:=by simp;omega
  clear hk;go_enter Tryz.func100,Tryz.ntmps100;go_wp2;go_ret;exact⟨⟨false,rfl,iffF (elemx _ _ _ _ _ _ HK.out)⟩,bel2 w _ _⟩
end
section
open Go.RowKit
open M (OpD NodeD Gr)
def exprI(W1:World)(n nr nb:Nat)(B:Nat→OpD)(d i:Value)(wr:World):Prop :=
 ∃k:Nat,k≤n∧d=.int .i64 (M.dep B k)∧i=.int .i64 (k:Int)∧Below W1.heap.size W1 wr∧∀j,j<k→M.ElemOK nr nb (B j)∧M.ar (B j).kind≤M.dep B j
def SmallB(n:Nat)(B:Nat→OpD):Prop:=n≤1048576∧∀i,i<n→(B i).sl≤1048576
theorem body_iff(nr nb n:Nat)(B:Nat→OpD)(h:∀j,j<n→M.ElemOK nr nb (B j)∧M.ar (B j).kind≤M.dep B j):M.BodyOK nr nb n B↔M.dep B n=1 :=
 ⟨fun q=>q.2.2,fun q=>⟨fun i hi=>(h i hi).1,fun i hi=>(h i hi).2,q⟩⟩
set_option maxHeartbeats 2000000 in
theorem isExpression_any(Q:Nat→Prop)(ra la a:Option Addr)(nr rc nb lc n c:Nat)(B:Nat→OpD)(w:World)(hB:OpsA Q w a n B)(h1:nr≤1048576)(h2:nb≤1048576)(h3:SmallB n B) :
  Calls Tryz.prog 76 #[.agg #[.slice ra nr rc,.slice la nb lc],.slice a n c] w (SaysB (M.BodyOK nr nb n B) w):=by
 obtain⟨hn,hsl⟩:=h3;have HB:Hid (OpsA Q w a n B):=hB;have HSL:Hid (∀i,i<n→(B i).sl≤1048576):=hsl;clear hB hsl;go_enter Tryz.func76,Tryz.ntmps76;go_wp2;go_loopw [5,10] (fun d i wr=>exprI (w.alloc (.cells #[.slice ra nr rc,.slice la nb lc] 26)) n nr nb B d i wr) (fun d i _=>n-(intOf i).toNat)
 case atStart=>exact⟨0,Nat.zero_le _,rfl,rfl,Below.refl _ _,fun j hj=>absurd hj (Nat.not_lt_zero _)⟩
 case round =>
  obtain⟨k,hk,rfl,rfl,hbel,hall⟩:=hrel;have bd:=M.dep_bd B n k hk (fun j hj=>(hall j hj).2)
  have HA:Hid (∀j,j<k→M.ElemOK nr nb (B j)∧M.ar (B j).kind≤M.dep B j):=hall;clear hall;have hbw:Below w.heap.size w wr:=bel_tr (bel1 w _) hbel;by_cases hlt:k<n
  ·have hB:=HB.out.later hbw
   rcases hB with h0 | ⟨b,off,rfl,hq,hB⟩
   ·omega
   obtain⟨c0,⟨sa,sc,c1,hs⟩,c2⟩:=hB k hlt;have hsl:=HSL.out k hlt;have g0:wr.cell? ⟨w.heap.size,0,none⟩=some (.slice ra nr rc):=cell_on (by simp) hbel
   have g1:wr.cell? ⟨w.heap.size,1,none⟩=some (.slice la nb lc):=cell_on (by simp) hbel
   have hsz:w.heap.size<wr.heap.size:=by have:=hbel.size;simp at this;omega
   have hbl:b<wr.heap.size:=lt_of_cell c0;have har:=M.ar_bd (B k).kind;have HST:Hid (M.dep B (k+1)=M.dep B k+(1-M.ar (B k).kind)):=rfl;have HBW:Hid (Below w.heap.size w wr):=hbw;have HBE:Hid _:=hbel;have HS:Hid (Ints Q .i64 wr sa (B k).sl (B k).set):=hs;clear hB hbw hbel hs;by_cases he:M.ElemOK nr nb (B k)
   ·have HE:Hid (M.ElemOK nr nb (B k)):=he
    clear he;by_cases hd:M.dep B k<M.ar (B k).kind
    ·go_wp2_with (first|(go_at_call 100;refine (validElement_any Q ra la sa nr rc nb lc (B k).sl sc (B k).set (B k).kind (B k).arg _ (HS.out.later (bel1 wr _)) h1 h2 hsl).mono ?_;rintro e W ⟨⟨r,rfl,hr⟩,hb⟩;obtain rfl:r=true:=hr.2 HE.out;have gk:=(cell_on (a:=⟨wr.heap.size,0,none⟩) (v:=.int .i64 (B k).kind) (by simp) hb);have HW:Hid _:=hb;clear hr hb)|(go_at_call 101;refine (operandsOf_any _ _).mono ?_;rintro e W' ⟨rfl,hw⟩;subst W'))
     go_ret;exact⟨⟨false,rfl,iffF fun q=>by have:=q.2.1 k hlt;omega⟩,bel_tr HBW.out (bel_tr (bel1 wr _) HW.out)⟩
    ·go_wp2_with (first|(go_at_call 100;refine (validElement_any Q ra la sa nr rc nb lc (B k).sl sc (B k).set (B k).kind (B k).arg _ (HS.out.later (bel1 wr _)) h1 h2 hsl).mono ?_;rintro e W ⟨⟨r,rfl,hr⟩,hb⟩;obtain rfl:r=true:=hr.2 HE.out;have gk:=(cell_on (a:=⟨wr.heap.size,0,none⟩) (v:=.int .i64 (B k).kind) (by simp) hb);have HW:Hid _:=hb;clear hr hb)|(go_at_call 101;refine (operandsOf_any _ _).mono ?_;rintro e W' ⟨rfl,hw⟩;subst W'))
     go_roundw
     case rel=>exact⟨k+1,by omega,val_int HST.out.symm,by go_num,bel_tr HBE.out (bel_tr (bel1 wr _) HW.out),fun j hj=>if e:j=k then e▸⟨HE.out,by omega⟩ else HA.out j (by omega)⟩
     case measure=>simp[intOf];omega
   ·have HE:Hid (¬M.ElemOK nr nb (B k)):=he
    clear he;go_wp2_with fail;refine (validElement_any Q ra la sa nr rc nb lc (B k).sl sc (B k).set (B k).kind (B k).arg _ (HS.out.later (bel1 wr _)) h1 h2 hsl).mono ?_;rintro e W ⟨⟨r,rfl,hr⟩,hb⟩;obtain rfl:r=false:=by { cases r;rfl;exact absurd (hr.1 rfl) HE.out }
    have HW:Hid _:=hb;clear hr hb;go_wp2;go_ret;exact⟨⟨false,rfl,iffF fun q=>HE.out (q.1 k hlt)⟩,bel_tr HBW.out (bel_tr (bel1 wr _) HW.out)⟩
  ·obtain rfl:k=n:=by omega
   go_wp2;go_ret;exact⟨⟨_,rfl,by rw[body_iff nr nb _ B HA.out];simp⟩,hbw⟩
end
end Go.Proofs.YtcbnnfnlilbjeaaGreat
