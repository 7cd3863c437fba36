import Derived.Test.YtimfigongapdnaaGreatT02
import Derived.Lib.BytesEntry
import Derived.RangeFuncNested
import Derived.RangeFuncBound
set_option linter.unusedVariables false
set_option linter.unusedSimpArgs false
set_option maxHeartbeats 40000000
set_option maxRecDepth 100000
namespace Go.Proofs.YtimfigongapdnaaGreat
open Go.RowKit
open M (OpD ug Gr)
def usv(w:World)(n nr a:Nat)(B:Nat->OpD)(i:Value)(wr:World):Prop :=
 ∃k:Nat,k<=n/\i=.int .i64 (k:Int)/\Below w.heap.size w wr/\∀j,j<k->M.ElemOK nr a (B j)
theorem uh3 nr a n B(h:∀j,j<n->M.ElemOK nr a (B j)):M.BodyOK nr a n B↔M.Shape n B :=
 ⟨λq=>q.2,λq=>⟨h,q⟩⟩
theorem xL Q a(nr s n c:Nat)B w(y:OpsA Q w a n B)(h1:nr<=1048576)(h2:s<=1048576)(h3:xG n B) :
  Calls Tryz.prog 66 #[.slice a n c,.int .i64 nr,.int .i64 s] w (xK (M.BodyOK nr s n B) w):=by
 obtain⟨hn,t⟩:=h3;have O:=ua y;have ab:=ua t;go_enter Tryz.func66,Tryz.ntmps66;go_wp2;go_loopw [7] (λi wr=>usv w n nr s B i wr) (λi _=>n-(intOf i).toNat)
 case atStart=>exact⟨0,Nat.zero_le _,rfl,Below.refl _ _,λj hj=>absurd hj (Nat.not_lt_zero _)⟩
 case round =>
  obtain⟨k,hk,rfl,D,ae⟩:=hrel;have N:=ua ae;by_cases J:k<n
  ·have y:=O.later D;rcases y with h0|⟨b,off,rfl,hq,y⟩
   ·omega
   obtain⟨G,⟨E,F,T,L⟩,U⟩:=y k J;have t:=ab k J;have af:=ud G;have f:=ua D;obtain⟨d,Z⟩:=nm (B k);have P:=ua Z;rw[Z]at G T U L t;obtain⟨kd,h,S,o⟩:=d;simp only at G T U L t;have C:=ua L;have ad:M.ElemOK nr s ⟨kd,h,S,o⟩->∀j,j<k+1->M.ElemOK nr s (B j):=λq j hj=>if e:j=k then e▸P.out▸q else N j (by omega)
   have ac:¬M.ElemOK nr s ⟨kd,h,S,o⟩->¬M.BodyOK nr s n B:=λq p=>q (P.out▸p.1 k J)
   have A:=ua ad;have l:=ua ac;rcases udo kd with rfl|rfl|rfl|I|I
   ·by_cases Y:M.Canon h S
    ·have u:Hid (M.Canon h S):=Y;by_cases H:o<0
     ·go_wp2_with (go_at_call 102;refine(kZ Q E h F S _ (C.later (ui wr _)) t).mono ?_;rintro e W ⟨⟨r,rfl,m⟩,g⟩;obtain rfl:r=true:=m.2 u;have V:=(ue (a:=⟨wr.heap.size,0,none⟩) (v:=.int .i64 1) (by simp) g);have X:=(ue (a:=⟨wr.heap.size,2,none⟩) (v:=.int .i64 o) (by simp) g);have x:Hid _:=g;clear m g);go_ret;exact⟨⟨false,rfl,uV (l λq=>by have:=((ueR _ _ _ _ _).1 q).1;omega)⟩,uf f (uf (ui wr _) x)⟩
     by_cases ha':1<=o
     ·go_wp2_with (go_at_call 102;refine(kZ Q E h F S _ (C.later (ui wr _)) t).mono ?_;rintro e W ⟨⟨r,rfl,m⟩,g⟩;obtain rfl:r=true:=m.2 u;have V:=(ue (a:=⟨wr.heap.size,0,none⟩) (v:=.int .i64 1) (by simp) g);have X:=(ue (a:=⟨wr.heap.size,2,none⟩) (v:=.int .i64 o) (by simp) g);have x:Hid _:=g;clear m g);go_ret;exact⟨⟨false,rfl,uV (l λq=>by have:=((ueR _ _ _ _ _).1 q).1;omega)⟩,uf f (uf (ui wr _) x)⟩
     go_wp2_with (go_at_call 102;refine(kZ Q E h F S _ (C.later (ui wr _)) t).mono ?_;rintro e W ⟨⟨r,rfl,m⟩,g⟩;obtain rfl:r=true:=m.2 u;have V:=(ue (a:=⟨wr.heap.size,0,none⟩) (v:=.int .i64 1) (by simp) g);have X:=(ue (a:=⟨wr.heap.size,2,none⟩) (v:=.int .i64 o) (by simp) g);have x:Hid _:=g;clear m g);go_roundw
     case rel=>exact⟨k+1,by omega,by go_num,uf f (uf (ui wr _) x),A ((ueR _ _ _ _ _).2 ⟨by omega,u⟩)⟩
     case measure=>simp[intOf];omega
    have u:Hid (¬M.Canon h S):=Y;go_wp2_with (go_at_call 102;refine(kZ Q E h F S _ (C.later (ui wr _)) t).mono ?_;rintro e W ⟨⟨r,rfl,m⟩,g⟩;obtain rfl:r=false:=by { cases r;rfl;exact absurd (m.1 rfl) u };have x:Hid _:=g;clear m g);go_ret;exact⟨⟨false,rfl,uV (l λq=>u ((ueR _ _ _ _ _).1 q).2)⟩,uf f (uf (ui wr _) x)⟩
   ·by_cases z:h=0
    ·subst z;by_cases H:o<0
     ·go_wp2;go_ret;exact⟨⟨false,rfl,uV (l λq=>by have:=(ug5 _ _ _ _ _).1 q;omega)⟩,uf f (ui wr _)⟩
     by_cases ha':(nr:Int)<=o
     ·go_wp2;go_ret;exact⟨⟨false,rfl,uV (l λq=>by have:=(ug5 _ _ _ _ _).1 q;omega)⟩,uf f (ui wr _)⟩
     go_wp2;go_roundw
     case rel=>exact⟨k+1,by omega,by go_num,uf f (ui wr _),A ((ug5 _ _ _ _ _).2 ⟨by omega,by omega,rfl⟩)⟩
     case measure=>simp[intOf];omega
    have hz':((h:Int) != 0)=true:=(by simp;omega);go_wp2;go_ret;exact⟨⟨false,rfl,uV (l λq=>by have:=(ug5 _ _ _ _ _).1 q;omega)⟩,uf f (ui wr _)⟩
   ·by_cases z:h=0
    ·subst z;by_cases H:o<0
     ·go_wp2;go_ret;exact⟨⟨false,rfl,uV (l λq=>by have:=(ueS _ _ _ _ _).1 q;omega)⟩,uf f (ui wr _)⟩
     by_cases ha':(s:Int)<=o
     ·go_wp2;go_ret;exact⟨⟨false,rfl,uV (l λq=>by have:=(ueS _ _ _ _ _).1 q;omega)⟩,uf f (ui wr _)⟩
     go_wp2;go_roundw
     case rel=>exact⟨k+1,by omega,by go_num,uf f (ui wr _),A ((ueS _ _ _ _ _).2 ⟨by omega,by omega,rfl⟩)⟩
     case measure=>simp[intOf];omega
    have hz':((h:Int) != 0)=true:=(by simp;omega);go_wp2;go_ret;exact⟨⟨false,rfl,uV (l λq=>by have:=(ueS _ _ _ _ _).1 q;omega)⟩,uf f (ui wr _)⟩
   ·rcases I with rfl|rfl|rfl|rfl|rfl;all_goals (
     by_cases z:h=0
     ·subst z;by_cases H:o<0
      ·go_wp2;go_ret;exact⟨⟨false,rfl,uV (l λq=>by have:=(ug6 _ _ _ _ _ _ (by omega)).1 q;omega)⟩,uf f (ui wr _)⟩
      by_cases ha':1<=o
      ·go_wp2;go_ret;exact⟨⟨false,rfl,uV (l λq=>by have:=(ug6 _ _ _ _ _ _ (by omega)).1 q;omega)⟩,uf f (ui wr _)⟩
      go_wp2;go_roundw
      case rel=>exact⟨k+1,by omega,by go_num,uf f (ui wr _),A ((ug6 _ _ _ _ _ _ (by omega)).2 ⟨by omega,rfl⟩)⟩
      case measure=>simp[intOf];omega
     have hz':((h:Int) != 0)=true:=(by simp;omega);go_wp2;go_ret;exact⟨⟨false,rfl,uV (l λq=>by have:=(ug6 _ _ _ _ _ _ (by omega)).1 q;omega)⟩,uf f (ui wr _)⟩)
   have R:Hid (kd<0\/7<kd):=I;by_cases ah:kd<0
   ·go_wp2;go_ret;exact⟨⟨false,rfl,uV (l (umD _ _ _ _ _ _ R))⟩,uf f (ui wr _)⟩
   have ag:7<kd:=(by omega);go_wp2;go_ret;exact⟨⟨false,rfl,uV (l (umD _ _ _ _ _ _ R))⟩,uf f (ui wr _)⟩
  obtain rfl:k=n:=by omega
  have y:=O.later D;have aa:=ua y;go_wp2_with (go_at_call 103;refine(ugw Q a k c B _ aa hn).mono ?_;rintro e W ⟨⟨r,rfl,m⟩,hw⟩;subst W;have HR:Hid _:=m;clear m);go_ret;exact⟨⟨_,rfl,HR.trans (uh3 nr s _ B N).symm⟩,D⟩
open M (LessT)
def Byt(n:Nat)(T:Nat->Int):Prop:=∀i,i<n->0<=T i/\T i<=255
def u8s(n:Nat)(T:Nat->Int):List UInt8:=(List.range n).map λi=>UInt8.ofNat (T i).toNat
def str(n:Nat)(T:Nat->Int):ByteArray:=strOfNums ((List.range n).map T)
theorem ubU n T:(str n T).toList=u8s n T:=by
 rw[ByteArray.toList_eq,str,strOfNums_data,u8s,List.map_map];rfl
theorem jB n T:(str n T).data.toList=u8s n T:=by
 rw[str,strOfNums_data,u8s,List.map_map];rfl
theorem uef n T:(str n T).size=n:=by rw[str,strOfNums_size];simp
theorem kH n T:u8s (n+1) T=UInt8.ofNat (T 0).toNat::u8s n (λi=>T (i+1)):=by
 simp[u8s,List.range_succ_eq_map,Function.comp_def]
theorem utb{x y:Int}(a:0<=x/\x<=255)(b:0<=y/\y<=255):UInt8.ofNat x.toNat<UInt8.ofNat y.toNat↔x<y:=by
 rw[UInt8.lt_iff_toNat_lt];simp only[UInt8.toNat_ofNat'];omega
theorem uqS{x y:Int}(a:0<=x/\x<=255)(b:0<=y/\y<=255):UInt8.ofNat x.toNat=UInt8.ofNat y.toNat↔x=y:=by
 rw[<-UInt8.toNat_inj];simp only[UInt8.toNat_ofNat'];omega
theorem uci n S T:¬LessT n S 0 T:=by
 rintro⟨k,_,_,_,⟨_,h,_⟩|⟨_,h⟩⟩<;>omega
theorem ucR m S T:LessT 0 S (m+1) T:=⟨0,λi a=>by omega,by omega,by omega,.inr ⟨rfl,by omega⟩⟩
theorem ujl n m S T:LessT (n+1) S (m+1) T↔S 0<T 0\/(S 0=T 0/\LessT n (λi=>S (i+1)) m (λi=>T (i+1))):=by
 constructor
 ·rintro⟨k,c,f,g,h⟩;by_cases o:k=0
  ·subst o;rcases h with⟨_,_,h⟩|⟨h,_⟩
   ·exact .inl h
   omega
  obtain⟨q,rfl⟩:∃q,k=q+1:=⟨k-1,by omega⟩;refine .inr ⟨c 0 (by omega),q,λi d=>c (i+1) (by omega),by omega,by omega,?_⟩;rcases h with⟨a,b,h⟩|⟨a,b⟩
  ·exact .inl ⟨by omega,by omega,h⟩
  exact .inr ⟨by omega,by omega⟩
 rintro (h|⟨h,q,c,f,g,l⟩)
 ·exact⟨0,λi d=>by omega,by omega,by omega,.inl ⟨by omega,by omega,h⟩⟩
 refine⟨q+1,λi d=>?_,by omega,by omega,?_⟩
 ·by_cases e:i=0
  ·subst e;exact h
  obtain⟨j,rfl⟩:∃j,i=j+1:=⟨i-1,by omega⟩;exact c j (by omega)
 rcases l with⟨a,b,h⟩|⟨a,b⟩
 ·exact .inl ⟨by omega,by omega,h⟩
 exact .inr ⟨by omega,by omega⟩
theorem ueg:∀(n m:Nat) (S T:Nat->Int),Byt n S->Byt m T->(Op.bytesLess (u8s n S) (u8s m T)=true↔LessT n S m T)
 |n,0,S,T,_,_=>by
  have:u8s 0 T = []:=rfl;rw[this];cases u8s n S<;>simp[Op.bytesLess,uci]
 |0,m+1,S,T,_,_=>by
  rw[kH];have:u8s 0 S = []:=rfl;rw[this];simp[Op.bytesLess,ucR]
 |n+1,m+1,S,T,hS,hT=>by
  have b:=ueg n m (λi=>S (i+1)) (λi=>T (i+1)) (λi a=>hS (i+1) (by omega)) (λi a=>hT (i+1) (by omega));rw[kH,kH,Op.bytesLess,ujl,<-b];simp only[Bool.or_eq_true,Bool.and_eq_true,decide_eq_true_eq,beq_iff_eq];rw[utb (hS 0 (by omega)) (hT 0 (by omega)),uqS (hS 0 (by omega)) (hT 0 (by omega))]
theorem uhZ:∀(d f:List UInt8),-1<=Lib.compareBytes d f/\Lib.compareBytes d f<=1/\(Lib.compareBytes d f<0↔Op.bytesLess d f=true)
 |[],[]=>by simp[Lib.compareBytes,Op.bytesLess]
 |[],_::_=>by simp[Lib.compareBytes,Op.bytesLess]
 |_::_,[]=>by simp[Lib.compareBytes,Op.bytesLess]
 |a::x,b::y=>by
  obtain⟨g,h,i⟩:=uhZ x y;rw[Lib.compareBytes,Op.bytesLess];by_cases e:a<b
  ·simp[e]
  by_cases c:b<a
  ·have k:¬a=b:=λq=>e (by rw[q]at c ⊢;exact c)
   simp[e,c,k]
  have j:a=b:=UInt8.le_antisymm (UInt8.not_lt.1 c) (UInt8.not_lt.1 e);subst j;simp[e];exact⟨g,h,i⟩
theorem ujm:∀(n m:Nat) (S T:Nat->Int),Byt n S->Byt m T->(u8s n S=u8s m T↔n=m/\∀i,i<n->S i=T i)
 |0,0,S,T,_,_=>⟨λ_=>⟨rfl,λi b=>by omega⟩,λ_=>rfl⟩
 |0,m+1,S,T,_,_=>by
  rw[kH];exact⟨λh=>absurd h (by simp[u8s]),λh=>by omega⟩
 |n+1,0,S,T,_,_=>by
  rw[kH];exact⟨λh=>absurd h (by simp[u8s]),λh=>by omega⟩
 |n+1,m+1,S,T,hS,hT=>by
  have f:=ujm n m (λi=>S (i+1)) (λi=>T (i+1)) (λi b=>hS (i+1) (by omega)) (λi b=>hT (i+1) (by omega));rw[kH,kH,List.cons.injEq,f,uqS (hS 0 (by omega)) (hT 0 (by omega))];constructor
  ·rintro⟨c,d,a⟩;refine⟨by omega,λi b=>?_⟩;by_cases e:i=0
   ·subst e;exact c
   obtain⟨j,rfl⟩:∃j,i=j+1:=⟨i-1,by omega⟩;exact a j (by omega)
  rintro⟨d,a⟩;exact⟨a 0 (by omega),by omega,λi b=>a (i+1) (by omega)⟩
theorem ust n m S T(a:Byt n S)(b:Byt m T):str n S=str m T↔n=m/\∀i,i<n->S i=T i:=by
 rw[<-ujm n m S T a b,<-jB,<-jB];constructor
 ·intro h;rw[h]
 intro h;apply ByteArray.ext;exact Array.ext' h
theorem ulO w x:(loadCells x 0).run Tryz.prog w=.ok #[] w:=by
 have:=run_loadCells_list (P:=Tryz.prog) w x [] (λj v h=>by simp at h);simpa using this
theorem vo Q a n c T w(h:Ints Q .u8 w a n T):(convert 22 9 (.slice a n c)).run Tryz.prog w=.ok (.string (str n T)) w:=by
 by_cases e:n=0
 ·subst e;cases a with
  |none=>exact run_convert_bytes_nil w 22 5 Tryz.underlying22 Tryz.underlying5 0 c 9 Tryz.underlying9
  |some x =>
   rw[run_convert_bytes_string w 22 9 5 _ 0 c Tryz.underlying22 Tryz.underlying5 Tryz.underlying9,run_bytesToString w x 0 c [] (by simpa using ulO w x)];rfl
 rcases h with h|⟨b,off,rfl,f,h⟩
 ·omega
 exact run_convert_bytes_arg w 22 5 Tryz.underlying22 Tryz.underlying5 b off n c ((List.range n).map T) (by simp) (λi d=>by rw[h i d];simp[d]) 9 Tryz.underlying9
theorem uba Q a b n c m d S T w(i:Ints Q .u8 w a n S)(j:Ints Q .u8 w b m T)(h:Byt n S)(bT:Byt m T) :
  Calls Tryz.prog 62 #[.slice a n c,.slice b m d] w (Says (LessT n S m T) w):=by
 have r1:=vo Q a n c S w i;have r2:=vo Q b m d T w j;have e:=ua (ueg n m S T h bT);have f:=ua (ubU n S);have g:=ua (ubU m T);generalize str n S=k at *;generalize str m T=l at *;go_enter Tryz.func62,Tryz.ntmps62;go_wp2;go_ret;exact⟨⟨_,rfl,by rw[f.out,g.out];exact e⟩,rfl⟩
theorem ucH Q a n c T w(h:Ints Q .u8 w a n T):(Extern.Bytes.bytesOf (.slice a n c)).run Tryz.prog w=.ok (str n T) w:=by
 have k:(⟨ByteArray.empty.data++(Lib.bytesOf ((List.range n).map T)).toArray⟩:ByteArray)=str n T:=by
  apply ByteArray.ext;show(#[]:Array UInt8)++(Lib.bytesOf ((List.range n).map T)).toArray=_;simp[Lib.bytesOf,str,strOfNums]
 by_cases i:n=0
 ·subst i;cases a with
  |none=>rfl
  |some x =>
   have:=Lib.run_loadBytesX (P:=Tryz.prog) w [] x .empty (λj y h=>by simp at h);exact this
 rcases h with h|⟨b,off,rfl,l,h⟩
 ·omega
 have g:=Lib.run_loadBytesX (P:=Tryz.prog) w ((List.range n).map T) ⟨b,off,none⟩ .empty (λj x d=>by
  have f:j<n:=by simpa using (List.getElem?_eq_some_iff.1 d).1
  have e:(⟨b,off,none⟩:Addr).add j=⟨b,off+j,none⟩:=by unfold Addr.add;split<;>simp_all
  rw[e,h j f];simp[f]at d;rw[d])
 rw[k,show((List.range n).map T).length=n by simp]at g;exact g
theorem uh0 Q a b n c m d S T w(e:Ints Q .u8 w a n S)(f:Ints Q .u8 w b m T) :
  (Extern.BytealgCompare.compare #[.slice a n c,.slice b m d]).run Tryz.prog w=.ok (.int .i64 (Lib.compareBytes (u8s n S) (u8s m T))) w:=by
 change Sem.run Tryz.prog (do pure (goInt (Extern.BytealgCompare.cmp (<-Extern.Bytes.bytesOf (.slice a n c)) (<-Extern.Bytes.bytesOf (.slice b m d))))) w=_;simp only[Sem.run_bind,ucH Q a n c S w e,ucH Q b m d T w f,Sem.run_pure,Result.andThen];rw[Lib.cmp_eq,jB,jB];rfl
theorem uh1 n m S T(g:Byt n S)(bT:Byt m T):∃r:Int,-1<=r/\r<=1/\(r<0↔LessT n S m T) /\
  ∀(Q:Nat->Prop) (a b:Option Addr) (c d:Nat) (w:World),Ints Q .u8 w a n S->Ints Q .u8 w b m T->Calls Tryz.prog 105 #[.slice a n c,.slice b m d] w λe w'=>e=.returned (.int .i64 r)/\w'=w:=by
 obtain⟨h,i,j⟩:=uhZ (u8s n S) (u8s m T);refine⟨_,h,i,j.trans (ueg n m S T g bT),λQ a b c d w k l=>?_⟩;have f:=ua (uh0 Q a b n c m d S T w k l);go_enter Tryz.func105,Tryz.ntmps105;go_wp2;rw[run_callFunc_extern Tryz.func143 (by kernel_rfl) (by kernel_rfl) (by kernel_rfl) (e:=Extern.BytealgCompare.compare) (by kernel_rfl),f.out];simp only[Result.andThen];rw[Oper.upon_value];go_wp2;go_ret;exact⟨rfl,rfl⟩
structure uc2(d:ug):Prop where
 name:d.nl<=1048576
 byt:Byt d.nl d.name
 body:xG d.bl d.body
structure GramA(Q:Nat->Prop)(w:World)(ra la:Option Addr)(g:Gr):Prop where
 rules:RulesA Q w ra g.nr g.rule
 labs:LabsA Q w la g.nb g.lab
structure vF(g:Gr):Prop where
 nr:g.nr<=1048576
 nb:g.nb<=1048576
 rule:∀i,i<g.nr->uc2 (g.rule i)
 lab:∀i,i<g.nb->uc2 (g.lab i)
theorem GramA.later{Q w w' a la g}(h:GramA Q w a la g)(t:Below w.heap.size w w'):GramA Q w' a la g :=
 ⟨h.rules.later t,h.labs.later t⟩
def jg(g:Gr):Prop:=(∀i,i<g.nr->M.BodyOK g.nr g.nb (g.rule i).bl (g.rule i).body) /\
 (∀i,i<g.nb->((g.lab i).has=true->M.BodyOK g.nr g.nb (g.lab i).bl (g.lab i).body)/\((g.lab i).has=false->(g.lab i).bl=0))
def ufn(W1:World)(n:Nat)(p:Nat->Prop)(i:Value)(wr:World):Prop :=
 ∃k:Nat,k<=n/\i=.int .i64 (k:Int)/\Below W1.heap.size W1 wr/\∀j,j<k->p j
theorem vC{p:Nat->Prop}{k:Nat}(h:∀j,j<k->p j)(a:p k):∀j,j<k+1->p j:=λj b =>
 if e:j=k then e▸a else h j (by omega)
theorem qe Q x la p lc g w(hG:GramA Q w x la g)(hs:vF g) :
  Calls Tryz.prog 71 #[.agg #[.slice x g.nr p,.slice la g.nb lc]] w (xK (jg g) w):=by
 obtain⟨nr,R,c,L⟩:=g;obtain⟨u,t⟩:=hG;obtain⟨A,B,V,X⟩:=hs;simp only at u t A B V X ⊢;have Z:=ua u;have Y:=ua t;have S1:=ua V;have S2:=ua X;go_enter Tryz.func71,Tryz.ntmps71;go_wp2;go_loopw [10] (λi wr=>ufn (w.alloc (.cells #[.slice x nr p,.slice la c lc] 28)) nr (λj=>M.BodyOK nr c (R j).bl (R j).body) i wr) (λi _=>nr-(intOf i).toNat)
 case atStart=>exact⟨0,Nat.zero_le _,rfl,Below.refl _ _,λj S=>absurd S (Nat.not_lt_zero _)⟩
 case round =>
  obtain⟨k,hk,rfl,f,O⟩:=hrel;have T:=ua O;have E:=uf (ui w _) f;have g0:wr.cell? ⟨w.heap.size,0,none⟩=some (.slice x nr p):=ue (by simp) f;have g1:wr.cell? ⟨w.heap.size,1,none⟩=some (.slice la c lc):=ue (by simp) f;have ab:w.heap.size<wr.heap.size:=by have:=f.size;simp at this;omega
  by_cases n:k<nr
  ·have u:=Z.later E;rcases u with h0|⟨b,off,rfl,hq,u⟩
   ·omega
   obtain⟨⟨na,nc,J,hn⟩,⟨ba,bc,N,d⟩⟩:=u k n;have aa:=ud J;have F:=ua E;have D:=ua f;have z:=ua d;have s:=ua ((S1 k n).body);by_cases C:M.BodyOK nr c (R k).bl (R k).body
   ·have h:Hid (M.BodyOK nr c (R k).bl (R k).body):=C;go_wp2_with (go_at_call 106;refine(yq Q (some ⟨b,off,none⟩) la ba nr p c lc (R k).bl bc (R k).body _ (z.later (ui wr _)) A B s).mono ?_;rintro e W ⟨⟨r,rfl,l⟩,d⟩;obtain rfl:r=true:=l.2 h;have o:Hid _:=d;clear l d);go_roundw
    case rel=>exact⟨k+1,by omega,by go_num,uf D (uf (ui wr _) o),vC T h⟩
    case measure=>simp[intOf];omega
   have h:Hid (¬M.BodyOK nr c (R k).bl (R k).body):=C;go_wp2_with (go_at_call 106;refine(yq Q (some ⟨b,off,none⟩) la ba nr p c lc (R k).bl bc (R k).body _ (z.later (ui wr _)) A B s).mono ?_;rintro e W ⟨⟨r,rfl,l⟩,d⟩;obtain rfl:r=false:=by { cases r;rfl;exact absurd (l.1 rfl) h };have o:Hid _:=d;clear l d);go_ret;exact⟨⟨false,rfl,uV λq=>h (q.1 k n)⟩,uf F (uf (ui wr _) o)⟩
  obtain rfl:k=nr:=by omega
  obtain⟨W1,eW⟩:=nm wr;subst wr;have F:=ua E;have HL':=ua (Y.later E);go_wp2;go_loopw [23] (λi ac=>ufn W1 c (λj=>((L j).has=true->M.BodyOK k c (L j).bl (L j).body)/\((L j).has=false->(L j).bl=0)) i ac) (λi _=>c-(intOf i).toNat)
  case atStart=>exact⟨0,Nat.zero_le _,rfl,Below.refl _ _,λj S=>absurd S (Nat.not_lt_zero _)⟩
  case round =>
   obtain⟨m,hm,rfl,f,O⟩:=hrel;have H:=ua O;have D:=ua f;have G:=ua (uf F f);have e0:=ue g0 f;have e1:=ue g1 f;have ad:=Nat.lt_of_lt_of_le ab f.size;by_cases n:m<c
   ·have t:=HL'.later f;rcases t with h0|⟨b,off,rfl,hq,t⟩
    ·omega
    obtain⟨⟨na,nc,J,hn⟩,N,⟨ba,bc,c2,d⟩⟩:=t m n;have aa:=ud J;have z:=ua d;have s:=ua ((S2 m n).body);have ae:=s.1;by_cases P:(L m).has=true
    ·have y:Hid ((L m).has=true):=P;rw[P]at N;by_cases C:M.BodyOK k c (L m).bl (L m).body
     ·have h:Hid (M.BodyOK k c (L m).bl (L m).body):=C;go_wp2_with (go_at_call 106;refine(yq Q x (some ⟨b,off,none⟩) ba k p c lc (L m).bl bc (L m).body _ (z.later (ui wr _)) A B s).mono ?_;rintro e W ⟨⟨r,rfl,l⟩,d⟩;obtain rfl:r=true:=l.2 h;have x1:=(ue (a:=⟨wr.heap.size,1,none⟩) (v:=.bool true) (by simp) d);have o:Hid _:=d;clear l d);go_roundw
      case rel=>exact⟨m+1,by omega,by go_num,uf D (uf (ui wr _) o),vC H ⟨λ_=>h,λq=>absurd (y.symm.trans q) (by decide)⟩⟩
      case measure=>simp[intOf];omega
     have h:Hid (¬M.BodyOK k c (L m).bl (L m).body):=C;go_wp2_with (go_at_call 106;refine(yq Q x (some ⟨b,off,none⟩) ba k p c lc (L m).bl bc (L m).body _ (z.later (ui wr _)) A B s).mono ?_;rintro e W ⟨⟨r,rfl,l⟩,d⟩;obtain rfl:r=false:=by { cases r;rfl;exact absurd (l.1 rfl) h };have o:Hid _:=d;clear l d);go_ret;exact⟨⟨false,rfl,uV λq=>h ((q.2 m n).1 y)⟩,uf G (uf (ui wr _) o)⟩
    have hh':(L m).has=false:=(by simpa using P);have y:=ua hh';rw[hh']at N;by_cases U:(L m).bl=0
    ·have I:Hid ((L m).bl=0):=U;have fz:¬(0:Int)<((L m).bl:Int):=(by omega);go_wp2;go_roundw
     case rel=>exact⟨m+1,by omega,by go_num,uf D (ui wr _),vC H ⟨λq=>absurd (y.symm.trans q) (by decide),λ_=>I⟩⟩
     case measure=>simp[intOf];omega
    have I:Hid (¬(L m).bl=0):=U;have fz:(0:Int)<((L m).bl:Int):=(by omega);go_wp2;go_ret;exact⟨⟨false,rfl,uV λq=>I ((q.2 m n).2 y)⟩,uf G (ui wr _)⟩
   obtain rfl:m=c:=(by omega);go_wp2;go_ret;exact⟨⟨true,rfl,qY ⟨T,H⟩⟩,G⟩
structure Keep(C:Nat->Prop)(W W':World):Prop where
 os:W'.os=W.os
 tape:W'.tape=W.tape
 output:W'.output=W.output
 size:W.heap.size<=W'.heap.size
 block:∀k,k<W.heap.size->¬C k->W'.heap[k]? = W.heap[k]?
theorem Keep.refl(C:Nat->Prop)(W:World):Keep C W W:=⟨rfl,rfl,rfl,Nat.le_refl _,fun _ _ _=>rfl⟩
theorem Keep.trans{C:Nat->Prop}{A B E:World}(h:Keep C A B)(k:Keep C B E):Keep C A E :=
 ⟨k.os.trans h.os,k.tape.trans h.tape,k.output.trans h.output,Nat.le_trans h.size k.size,fun i hi hc=>(k.block i (Nat.lt_of_lt_of_le hi h.size) hc).trans (h.block i hi hc)⟩
theorem Keep.mono{C C':Nat->Prop}{A B:World}(h:Keep C A B)(hc:∀k,C k->C' k):Keep C' A B :=
 ⟨h.os,h.tape,h.output,h.size,fun i hi hn=>h.block i hi (fun q=>hn (hc i q))⟩
theorem Keep.alloc(C:Nat->Prop)(W:World)(o:Obj):Keep C W (W.alloc o) :=
 ⟨rfl,rfl,rfl,by simp,fun k hk _=>Below.heap_alloc W o k hk⟩
theorem Keep.drew(C:Nat->Prop)(W:World):Keep C W W.drew:=⟨rfl,rfl,rfl,Nat.le_refl _,fun _ _ _=>rfl⟩
theorem Keep.setCell{C:Nat->Prop}(W:World)(a:Addr)(v:Value)(h:C a.block):Keep C W (W.setCell a v) :=
 ⟨rfl,rfl,rfl,by simp[World.setCell],fun k _ hn=>Below.heap_setCell _ _ _ _ (fun e=>hn (e▸h))⟩
theorem Keep.putObj{C:Nat->Prop}(W:World)(r:Nat)(o:Obj)(h:C r):Keep C W (W.putObj r o) :=
 ⟨rfl,rfl,rfl,by simp,fun k _ hn=>World.putObj_heap_other (fun e=>hn (e▸h))⟩
theorem Keep.of_below{C:Nat->Prop}{B:Nat}{W W':World}(h:Below B W W')(hc:∀k,k<W.heap.size->¬C k->k<B):Keep C W W' :=
 ⟨h.os,h.tape,h.output,h.size,fun k hk hn=>h.block k (hc k hk hn)⟩
theorem Keep.below{C:Nat->Prop}{B:Nat}{W W':World}(h:Keep C W W')(hB:B<=W.heap.size)(hc:∀k,k<B->¬C k):Below B W W' :=
 ⟨h.os,h.tape,h.output,h.size,fun k hk=>h.block k (by omega) (hc k hk)⟩
theorem xy(W:World)(v:Value)(t:TypeId):(W.alloc (.cells #[v] t)).cell? ⟨W.heap.size,0,none⟩=some v:=by
 have h:=World.alloc_heap_new W (.cells #[v] t);simp only[World.cell?,h];rfl
theorem uan(W:World)(v:Value)(t:TypeId):(W.alloc (.cells #[v] t)).frozen? ⟨W.heap.size,0,none⟩=false:=by
 have h:=World.alloc_heap_new W (.cells #[v] t);simp only[World.frozen?,h];rfl
theorem uA{W:World}{a:Addr}{v:Value}(o:Obj)(h:W.cell? a=some v):(W.alloc o).cell? a=some v:=cell_kept h (World.grownBy_alloc W o none) (fun r e=>by cases e)
theorem qO{W:World}{a:Addr}{v:Value}(o:Obj)(h:W.cell? a=some v)(hf:W.frozen? a=false):(W.alloc o).frozen? a=false:=(frozen_kept h (World.grownBy_alloc W o none) (fun r e=>by cases e)).trans hf
theorem xE{B d:Nat}(W:World)(o:Obj)(h:B<=d)(hs:B<=W.heap.size):Below B W (W.putObj d o) :=
 (Below.refl _ W).grown (grownBy_putObj' W d o) hs (fun k e=>by cases e;exact h)
def Ab{σ:Type}(B:Nat)(J:σ->World->Prop):Prop:=∀s A E,J s A->Below B A E->J s E
def unI{σ:Type}(P:Program)(g:Nat)(lb:Array Value)(s0:σ)(more:σ->Prop)(next:σ->σ)(enc:σ->Array Value)(D:Nat->Prop)(w:World):Prop :=
 ∀(l:Nat) (C:Nat->Prop) (J Jx:σ->World->Prop) (W:World),w.heap.size<=W.heap.size->(∀k,D k->W.heap[k]? = w.heap[k]?)->(∀k,D k->¬C k)->(∀k,W.heap.size<=k->¬C k) ->
  Ab W.heap.size J->Ab W.heap.size Jx ->
  (∀s W1,J s W1->more s->YieldAt Fence.wide 0 P l (enc s) W1 fun e W' =>
   (e=.returned (.bool true)/\J (next s) W'/\Keep C W1 W')\/(e=.returned (.bool false)/\Jx s W'/\Keep C W1 W')) ->
  J s0 W ->
  CallsIn Fence.wide 0 P g (#[.func (.yield l) #[] #[]]++lb) W fun e W'=>(∃v,e=.returned v)/\((∃s,¬more s/\J s W')\/(∃s,more s/\Jx s W'))
def ufe{σ:Type}(C:Nat->Prop)(I:σ->World->Prop)(Ix:Code->σ->World->Prop)(s s':σ)(W:World):Exit->Act->World->Prop
 | .normal,_,W'=>Keep C W W'/\I s' W'
 | .ret,_,W'=>Keep C W W'/\Ix .ret s W'
 | .exit id,_,W'=>Keep C W W'/\Ix (.exit id) s W'
 | .goto t,_,W'=>Keep C W W'/\Ix (.goto t) s W'
 | .panic _,_,_=>False
 | .outgrown,_,_=>False
theorem uao{P:Program}{σ:Type}{g:Operand}{ps:Array Tmp}{assign body:Code}{Q:Exit->Act->World->Prop}{a:Act}{w:World}
  {gf:Nat} {lb:Array Value} (hg:a.eval g=.func (.func gf) #[] lb) (eg:∀args w,(callFunc gf args).run P w=.ok (.enter gf args) w)
  {s0:σ} {more:σ->Prop} {next:σ->σ} {enc:σ->Array Value} {D:Nat->Prop} (hseq:unI P gf lb s0 more next enc D w) (hps:∀s,(enc s).size=ps.size)
  (hD:∀k,D k->k<w.heap.size)
  (C:Nat->Prop) (hCD:∀k,D k->¬C k) (hCw:∀k,w.heap.size<=k->¬C k)
  (I:σ->World->Prop) (Ix:Code->σ->World->Prop) (hI:Ab w.heap.size I) (hIx:∀c,Ab w.heap.size (Ix c)) (h0:I s0 w)
  (hround:∀(l:Nat) (s:σ) (W:World),w.heap.size<=l->l<W.heap.size->I s W->more s ->
   assign.wpIn (Fence.wide.inRound l) 0 P (Exit.then (fun a₁ W₁=>Keep C W W₁/\I s W₁/\∀W₂,Keep (fun k=>k=l) W₁ W₂->W₂.heap.size=W₁.heap.size->I s W₂ ->
     body.wpIn (Fence.wide.inRound l) 0 P (ufe C I Ix s (next s) W₂) a₁ W₂) (fun _ _ _=>False))
    { tmps:=(ps.zip (enc s)).foldl (fun t (p,v)=>t.setIfInBounds p v) a.tmps,defers:=[] } W)
  (hdone:∀(d:Nat) (s:σ) (W:World),w.heap.size<=d->¬more s->I s W->W.heap[d]? = some (.deferred (some []))->Q .normal { a with defers:={ target:=.collected d,args:=#[] } :: a.defers } W)
  (hstop:∀(d:Nat) (c:Code) (s:σ) (W:World),w.heap.size<=d->more s->Ix c s W->W.heap[d]? = some (.deferred (some []))->c.wpIn Fence.wide 0 P Q { a with defers:={ target:=.collected d,args:=#[] } :: a.defers } W) :
  (Code.rangeFunc g ps assign body).wpIn Fence.wide 0 P Q a w:=by
 refine wpIn_rangeFunc ?_;intro fn hfn;obtain⟨rec,hrec⟩:∃rec:LoopState->Option Code->Loop,rec=fun st pe=>{ state:=st,pending:=pe,fn,tmps:=a.tmps,params:=ps,assign,body,defers:=w.heap.size }:=⟨_,rfl⟩
 obtain⟨W1,hW1⟩:=nm ((w.alloc (.deferred (some []))).alloc (.loop (rec .ready none)));have hs1:W1.heap.size=w.heap.size+2:=by rw[<-hW1];simp
 have hL1:W1.heap[w.heap.size+1]? = some (.loop (rec .ready none)):=by
  rw[<-hW1];have:=World.alloc_heap_new (w.alloc (.deferred (some []))) (.loop (rec .ready none));rwa [World.size_alloc]at this
 have hK1:W1.heap[w.heap.size]? = some (.deferred (some [])):=by
  rw[<-hW1];exact (Below.heap_alloc _ _ _ (by simp)).trans (World.alloc_heap_new w _)
 have hb1:Below w.heap.size w W1:=by
  rw[<-hW1];exact ((Below.refl _ w).alloc (Nat.le_refl _) _).alloc (by simp) _
 have hput:∀(W:World) (o:Obj),w.heap.size+1<W.heap.size->Below w.heap.size W (W.putObj (w.heap.size+1) o):=fun W o hlt =>
  (Below.refl _ W).grown (grownBy_putObj' W _ o) (by omega) (fun k e=>by cases e;omega)
 refine⟨w.heap.size+1,[{ target:=.collected w.heap.size,args:=#[] }],W1,{ target:=.fn (.func gf) lb,args:=#[.func (.yield (w.heap.size+1)) #[] #[]] },W1,gf,
  #[.func (.yield (w.heap.size + 1)) #[] #[]] ++ lb, W1, ?_, ?_, ?_, ?_, ?_, ?_⟩
 ·rw[<-hW1,hrec];exact run_enterLoop_outer _ _ _ _ _
 ·simp only[resolve,hg]
  simp[go_sem]
 ·intro f' _;trivial
 ·simp[invoke,go_sem,eg]
 ·intro h;simp[Fence.wide]at h
 ·refine (hseq (w.heap.size+1) (fun k=>C k\/k=w.heap.size+1)
   (fun s W=>I s W/\W.heap[w.heap.size+1]? = some (.loop (rec .ready none))/\W.heap[w.heap.size]? = some (.deferred (some [])))
   (fun s W=>∃c,Ix c s W/\W.heap[w.heap.size+1]? = some (.loop (rec .done (some c)))/\W.heap[w.heap.size]? = some (.deferred (some [])))
   W1 (by omega) (fun k hk=>hb1.block k (hD k hk)) (fun k hk hc=>hc.elim (hCD k hk) (fun e=>by have:=hD k hk;omega)) (fun k hk hc=>hc.elim (hCw k (by omega)) (fun e=>by omega))
   (fun s A E hs hb=>⟨hI s A E hs.1 (hb.mono (by omega)),(hb.block _ (by omega)).trans hs.2.1,(hb.block _ (by omega)).trans hs.2.2⟩)
   (fun s A E hs hb=>by
    obtain⟨c,hc,hl,hk⟩:=hs;exact⟨c,hIx c s A E hc (hb.mono (by omega)),(hb.block _ (by omega)).trans hl,(hb.block _ (by omega)).trans hk⟩)
   ?_ ⟨hI s0 w W1 h0 hb1,hL1,hK1⟩).mono ?_
  ·
   rintro s W ⟨hi,hl,hk⟩ hm;have hlt:=(Array.getElem?_eq_some_iff.1 hl).1;have hy:=run_yield (P:=P) (args:=enc s) hl (by rw[hrec];exact hps s)
   rw[hrec]at hy;refine⟨fn,_,assign,body,hy,roundIn_of_wpIn hfn (wpIn_mono (hround _ s W (by omega) hlt hi hm) ?_)⟩
   intro e a₁ Wa hp;cases e with
   |normal =>
    obtain⟨hka,hia,hb⟩:=hp;have hla:=(hka.block _ hlt (hCw _ (by omega))).trans hl
    have hda:=(hka.block _ (by omega) (hCw _ (by omega))).trans hk
    have hlta:=Nat.lt_of_lt_of_le hlt hka.size;refine⟨_,run_beginRound hla (by rw[hrec]),?_⟩
    have hib:=hI s Wa _ hia (hput Wa (.loop { rec .ready none with state:=.busy }) hlta)
    have hlb:(Wa.putObj (w.heap.size+1) (.loop { rec .ready none with state:=.busy })).heap[w.heap.size+1]? = some (.loop { rec .ready none with state:=.busy }):=World.putObj_heap_same hlta
    have hdb:(Wa.putObj (w.heap.size+1) (.loop { rec .ready none with state:=.busy })).heap[w.heap.size]? = some (.deferred (some [])):=(World.putObj_heap_other (by omega)).trans hda
    refine wpIn_mono (hb _ (Keep.putObj _ _ _ rfl) (by simp) hib) ?_
    have fin:∀(jump:Option Code) (W3:World),Keep C (Wa.putObj (w.heap.size+1) (.loop { rec .ready none with state:=.busy })) W3 ->
      (Instr.endRound (w.heap.size+1) jump).run P W3=.ok (.bool jump.isNone) (W3.putObj (w.heap.size+1) (.loop (rec (if jump.isNone then .ready else .done) jump))) /\
      w.heap.size+1<W3.heap.size /\
      (W3.putObj (w.heap.size+1) (.loop (rec (if jump.isNone then .ready else .done) jump))).heap[w.heap.size+1]? = some (.loop (rec (if jump.isNone then .ready else .done) jump)) /\
      (W3.putObj (w.heap.size+1) (.loop (rec (if jump.isNone then .ready else .done) jump))).heap[w.heap.size]? = some (.deferred (some [])):=fun jump W3 hk3=>by
     have hl3:=(hk3.block _ (by simpa using hlta) (hCw _ (by omega))).trans hlb
     have hd3:=(hk3.block w.heap.size (by simp;omega) (hCw _ (by omega))).trans hdb
     have:=run_endRound (P:=P) jump hl3;rw[hrec]at this ⊢;exact⟨this,(Array.getElem?_eq_some_iff.1 hl3).1,World.putObj_heap_same (Array.getElem?_eq_some_iff.1 hl3).1,(World.putObj_heap_other (by omega)).trans hd3⟩
    have hkeep:∀(W3:World) (o:Obj),Keep C (Wa.putObj (w.heap.size+1) (.loop { rec .ready none with state:=.busy })) W3->Keep (fun k=>C k\/k=w.heap.size+1) W (W3.putObj (w.heap.size+1) o):=fun W3 o hk3 =>
     ((hka.mono fun _=>.inl).trans (Keep.putObj _ _ _ (.inr rfl))).trans ((hk3.mono fun _=>.inl).trans (Keep.putObj _ _ _ (.inr rfl)))
    rintro e a3 W3 hp;cases e with
    |normal =>
     obtain⟨hk3,hi3⟩:=hp;obtain⟨hr,hl3,hl4,hd4⟩:=fin none W3 hk3;exact⟨_,_,hr,.inl ⟨rfl,⟨hI _ _ _ hi3 (hput W3 _ hl3),hl4,hd4⟩,hkeep W3 _ hk3⟩⟩
    |ret =>
     obtain⟨hk3,hi3⟩:=hp;obtain⟨hr,hl3,hl4,hd4⟩:=fin (some .ret) W3 hk3;exact⟨_,_,hr,.inr ⟨rfl,⟨.ret,hIx _ _ _ _ hi3 (hput W3 _ hl3),hl4,hd4⟩,hkeep W3 _ hk3⟩⟩
    |exit id =>
     obtain⟨hk3,hi3⟩:=hp;obtain⟨hr,hl3,hl4,hd4⟩:=fin (some (.exit id)) W3 hk3;exact⟨_,_,hr,.inr ⟨rfl,⟨.exit id,hIx _ _ _ _ hi3 (hput W3 _ hl3),hl4,hd4⟩,hkeep W3 _ hk3⟩⟩
    |goto t =>
     obtain⟨hk3,hi3⟩:=hp;obtain⟨hr,hl3,hl4,hd4⟩:=fin (some (.goto t)) W3 hk3;exact⟨_,_,hr,.inr ⟨rfl,⟨.goto t,hIx _ _ _ _ hi3 (hput W3 _ hl3),hl4,hd4⟩,hkeep W3 _ hk3⟩⟩
    |panic ch=>exact hp.elim
    |outgrown=>exact hp.elim
   |ret=>exact hp.elim
   |exit id=>exact hp.elim
   |goto t=>exact hp.elim
   |panic ch=>exact hp.elim
   |outgrown=>exact hp.elim
  ·
   rintro e W2 ⟨⟨v,rfl⟩,(⟨s,hm,hi,hl,hk⟩|⟨s,hm,c,hi,hl,hk⟩)⟩
   ·exact⟨none,_,by have:=run_endLoop (P:=P) hl (by rw[hrec];simp);rw[hrec]at this;exact this,
     hdone _ s _ (Nat.le_refl _) hm (hI _ _ _ hi (hput W2 _ (Array.getElem?_eq_some_iff.1 hl).1)) ((World.putObj_heap_other (by omega)).trans hk)⟩
   ·exact⟨some c,_,by have:=run_endLoop (P:=P) hl (by rw[hrec];simp);rw[hrec]at this;exact this,
     hstop _ c s _ (Nat.le_refl _) hm (hIx c _ _ _ hi (hput W2 _ (Array.getElem?_eq_some_iff.1 hl).1)) ((World.putObj_heap_other (by omega)).trans hk)⟩
end Go.Proofs.YtimfigongapdnaaGreat
