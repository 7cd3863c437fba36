import Derived.Test.YtimfigongapdnaaGreatT15
set_option linter.unusedVariables false
set_option linter.unusedSimpArgs false
set_option maxHeartbeats 40000000
set_option maxRecDepth 100000
namespace Go.Proofs.YtimfigongapdnaaGreat
open Go.RowKit
theorem uaU Q t a c i cls w(g:TxA Q w a t)(u:i<=t.n) :
  Calls Tryz.prog 140 #[.slice a t.n c,.int .i64 i,.bool cls] w (udr (chr t i cls).1 ((chr t i cls).2:Nat) w):=by
 have y:=t.le;unfold chr;by_cases o:t.n<=i
 ·rw[if_pos (.inl o)];have p:(t.n:Int)<=(i:Int):=by omega
  go_enter Tryz.func140,Tryz.ntmps140;go_wp2;go_ret2;exact xJ
 have p:¬(t.n:Int)<=(i:Int):=by omega
 have k:Hid (∀w,TxA Q w a t->Calls Tryz.prog 157 #[.slice a t.n c,.int .i64 i] w (udr (esc t i).1 ((esc t i).2:Nat) w)):=λw h=>ufM Q t a c i w h u
 have l:=ua g;obtain⟨b,off,rfl,z,s⟩:=g.at (i:=i) (by omega);have A:=s i (by omega);have v:=t.byt i;generalize t.T i=x at *;by_cases j:x=10
 ·subst j;rw[if_pos (.inr rfl)];go_enter Tryz.func140,Tryz.ntmps140;go_wp2;go_ret2;exact xJ
 have x1':(x==10)=false:=by simpa using j
 rw[if_neg (by omega)];by_cases f:x=92
 ·subst f;rw[if_pos rfl];generalize esc t i=r at *;go_enter Tryz.func140,Tryz.ntmps140;go_wp2_with fail;refine(k w l).mono ?_;rintro e W ⟨rfl,m,rfl⟩;go_wp2;go_ret2;exact⟨rfl,m,rfl⟩
 rw[if_neg f];have x2':(x==92)=false:=by simpa using f
 cases cls with
 |true =>
  by_cases d:x=93\/x=45\/x=94
  ·rw[if_pos ⟨rfl,d⟩];rcases d with rfl|rfl|rfl;all_goals (
    go_enter Tryz.func140,Tryz.ntmps140;go_wp2;go_ret2;exact xJ)
  rw[if_neg (λq=>d q.2),if_neg (λq=>Bool.noConfusion q.1)];obtain⟨y1,y2,y3⟩:(x==93)=false/\(x==45)=false/\(x==94)=false:=by
   simp only[not_or]at d;simpa using d
  go_enter Tryz.func140,Tryz.ntmps140;go_wp2;go_ret2;exact xJ
 |false =>
  rw[if_neg (λq=>Bool.noConfusion q.1)];by_cases d:x=34
  ·subst d;rw[if_pos ⟨rfl,rfl⟩];go_enter Tryz.func140,Tryz.ntmps140;go_wp2;go_ret2;exact xJ
  rw[if_neg (λq=>d q.2)];have y1:(x==34)=false:=by simpa using d
  go_enter Tryz.func140,Tryz.ntmps140;go_wp2;go_ret2;exact xJ
theorem udE Q t a c i w(C:TxA Q w a t)(D:i<=t.n) :
  Calls Tryz.prog 59 #[.slice a t.n c,.int .i64 i] w λe w'=>e=.returned (.int .i64 (skip t i:Nat))/\w'=w:=by
 have J:=t.le;have B:=ua C;go_enter Tryz.func59,Tryz.ntmps59;go_wp2;go_loopw [1] (λu wr=>∃k:Nat,k<=t.n/\u=.int .i64 k/\wr=w/\skip t k=skip t i) (λu _=>t.n-(intOf u).toNat)
 case atStart=>exact⟨i,D,rfl,rfl,rfl⟩
 case round =>
  obtain⟨k,E,rfl,rfl,v⟩:=hrel;have f:=ua v;have d:=ua (uk0 t k);by_cases h:k<t.n
  ·have hlt':(k:Int)<t.n:=(by omega);obtain⟨b,off,rfl,L,s⟩:=B.at h;have F:=s k h;have H:=t.byt k;have z:=ufR t h;have y:=ua s;clear s;by_cases m:wsP (t.T k)
   ·have g:Hid (skip t (k+1)=skip t i):=(by show _=_;rw[<-f.out,d.out,if_pos h,if_pos m]);clear f d z y;generalize t.T k=x at *;rcases m with rfl|rfl|rfl|rfl;all_goals (
     go_wp2;go_roundw
     case rel=>exact⟨k+1,h,by go_num,by trivial,g⟩
     case measure=>simp[intOf];omega)
   by_cases o:t.T k=35
   ·have g:Hid (skip t (qq t k)=skip t i):=(by show _=_;rw[<-f.out,d.out,if_pos h,if_neg m,if_pos o]);have HG':=ua (z o);rw[o]at F;go_wp2;go_loopw [1] (λu w'=>∃j:Nat,k<=j/\j<=t.n/\u=.int .i64 j/\w'=wr/\qq t j=qq t k) (λu _=>t.n-(intOf u).toNat)
    case atStart=>exact⟨k,Nat.le_refl _,E,rfl,rfl,rfl⟩
    case round =>
     obtain⟨j,I,A,rfl,rfl,v⟩:=hrel;have f:=ua v;have d:=ua (ue1 t j);by_cases r:j<t.n
     ·have hjl':(j:Int)<t.n:=(by omega);have G:=y j r;have b1:=t.byt j;by_cases p:t.T j=10
      ·have l:Hid (j=qq t k):=(by show _=_;rw[<-f.out,d.out,if_neg (λq=>q.2 p)]);rw[p]at G;go_wp2;go_roundw
       case rel=>exact⟨j,A,rfl,by trivial,by rw[l.out];exact g⟩
       case measure=>have:=l.out;have:=HG'.out;simp[intOf];omega
      have l:Hid (qq t (j+1)=qq t k):=(by show _=_;rw[<-f.out,d.out,if_pos ⟨r,p⟩]);have y1:(t.T j==10)=false:=(by simpa using p);go_wp2;go_roundw
      case rel=>exact⟨j+1,by omega,r,by go_num,by trivial,l⟩
      case measure=>simp[intOf];omega
     have l:Hid (j=qq t k):=(by show _=_;rw[<-f.out,d.out,if_neg (λq=>r q.1)]);have hjl':¬(j:Int)<t.n:=(by omega);go_wp2;go_roundw
     case rel=>exact⟨j,A,rfl,by trivial,by rw[l.out];exact g⟩
     case measure=>have:=l;have:=HG';simp[intOf];omega
   obtain⟨y1,y2,y3,y4⟩:(t.T k==32)=false/\(t.T k==9)=false/\(t.T k==13)=false/\(t.T k==10)=false:=by
    unfold wsP at m;simp only[not_or]at m;simpa using m
   have N:(t.T k==35)=false:=(by simpa using o);have g:Hid (k=skip t i):=(by show _=_;rw[<-f.out,d.out,if_pos h,if_neg m,if_neg o]);go_wp2;go_ret;exact⟨uD (by rw[<-g.out]),rfl⟩
  obtain rfl:k=t.n:=by omega
  have g:Hid (t.n=skip t i):=by show _=_;rw[<-f.out,d.out,if_neg h]
  go_wp2;go_ret;exact⟨uD (by rw[<-g.out]),rfl⟩
open M (OpD ug Gr)
def BufI(k:IntKind)(w0:World)(z:List Int)(v:Value)(wr:World):Prop:=OwnC (New w0 wr) wr v 1 z.length (uS k (lf z) z.length)/\Keep (λ_=>False) w0 wr
theorem udF k l x:uS k (lf l) l.length++[.int k x]=uS k (lf (l++[x])) (l.length+1):=by
 unfold uS;rw[List.range_succ,List.map_append];congr 1
 ·refine List.map_congr_left λi a=>?_
  have:=List.mem_range.1 a;simp[lf,List.getElem?_append_left this]
 simp[lf]
theorem BufI.nil{k w0 wr}(h:Keep (λ_=>False) w0 wr):BufI k w0 [] (.slice none 0 0) wr:=⟨.inl ⟨rfl,rfl,rfl⟩,h⟩
theorem BufI.snoc{k w0 wr c a l m x}(f:Keep (λ_=>False) w0 wr)(i:Keep (λ_=>False) wr c)(own:OwnC (λb=>New w0 wr b\/c.heap.size<=b) a m 1 (l.length+1) (uS k (lf l) l.length++[.int k x]))(g:Grew (New w0 wr) c a):BufI k w0 (l++[x]) m a:=by
 have r:(l++[x]).length=l.length+1:=by simp
 refine⟨?_,ye (f.trans i) g (λb q=>q.1)⟩;rw[udF]at own;rw[r];have t:=f.size;have zk':=i.size;rcases own with⟨_,q,_⟩|⟨b,cap,e,s,n,o,d,p⟩
 ·omega
 refine .inr ⟨b,cap,e,⟨?_,?_⟩,n,o,d,p⟩
 ·rcases s with q|q
  ·exact q.1
  omega
 have j:0<(uS k (lf (l++[x])) (l.length+1)).length:=by rw[xR];omega
 have h:=d 0 j;rw[List.getElem?_eq_getElem j]at h;exact ud h
theorem BufI.shape{k w0 wr l v}(h:BufI k w0 l v wr):∃a c,v=.slice a l.length c:=uk h.1
theorem BufI.ints{k w0 wr l a n c}(h:BufI k w0 l (.slice a n c) wr):Ints (New w0 wr) k wr a l.length (lf l):=by
 obtain⟨b,d,e⟩:=uk h.1;injection e with e1 e2 e3;subst e1 e2 e3;exact yZ h.1
theorem ufZ(wr:World)(x:Int):Src Tryz.prog 1 22 (.slice (some ⟨wr.heap.size,0,none⟩) 1 1) 1 [.int .u8 x] (wr.alloc (.cells #[.int .u8 x] 5)) :=
 yp Tryz.underlying22 rfl (λj u a=>by
  have b:=World.alloc_heap_new wr (.cells #[.int .u8 x] 5);simp only[World.cell?,b];rw[<-a];simp) (λu a=>by obtain rfl:=List.mem_singleton.1 a;rfl)
theorem uX w m:Keep (λ_=>False) w (w.drewN m):=Keep.of_below (below_drewN (Below.refl w.heap.size w) m) (λk a _=>a)
theorem TxA.keep{Q t a w w'}(h:TxA Q w a t)(k:Keep (λ_=>False) w w'):TxA Q w' a t:=Ints.later h k.bel
theorem upA t i(d:i<=t.n):0<=(esc t i).1/\(esc t i).1<=255/\i+(esc t i).2<=t.n:=by
 have b1:=t.byt (i+1);have e:=ucY (t.T (i+2));have f:=ucY (t.T (i+3));unfold esc;split
 ·simp;omega
 split
 ·simp;omega
 split
 ·simp;omega
 split
 ·simp;omega
 split
 ·simp;omega
 split
 ·rename_i h;obtain⟨_,a,b,c⟩:=h;simp;omega
 simp;omega
theorem jS t i c(b:i<=t.n):0<=(chr t i c).1/\(chr t i c).1<=255/\i+(chr t i c).2<=t.n:=by
 have b1:=t.byt i;have a:=upA t i b;unfold chr;split
 ·simp;omega
 split
 ·exact a
 split
 ·simp;omega
 split
 ·simp;omega
 simp;omega
def udG(t:Tx):Nat->Nat->List Int->Option (List Int×Nat)
 |0,_,_=>none
 |f+1,j,z=>if j<t.n/\t.T j=34 then some (z,j+1) else if (chr t j false).2=0 then none else udG t f (j+(chr t j false).2) (z++[(chr t j false).1])
def uhm(t:Tx)(i:Nat):Option (List Int×Nat):=udG t (t.n-i) (i+1) []
def um8(k:IntKind)(r:Option (List Int×Nat))(i:Nat)(w:World)(e:Ending)(w':World):Prop :=
 Keep (λ_=>False) w w'/\match r with
 |none=>e=.returned (.tuple #[.slice none 0 0,.int .i64 0])
 |some (z,j)=>∃a c,e=.returned (.tuple #[.slice a z.length c,.int .i64 ((j:Int)-i)])/\Ints (New w w') k w' a z.length (lf z)
theorem uf0 Q t a c i w(hT:TxA Q w a t)(hi:i<t.n) :
  Calls Tryz.prog 100 #[.slice a t.n c,.int .i64 i] w (um8 .u8 (uhm t i) i w):=by
 have ae:=t.le;have HT:=ua hT;obtain⟨r,L⟩:=nm (uhm t i);rw[L];go_enter Tryz.func100,Tryz.ntmps100;go_wp2;go_loopw [6,7] (λv u wr=>∃(f j:Nat) (z:List Int),j<=t.n/\i<j/\t.n-j<f/\u=.int .i64 j/\z.length<=j/\BufI .u8 w z v wr/\udG t f j z=r) (λ_ u _=>t.n-(intOf u).toNat)
 case atStart=>exact⟨t.n-i,i+1,[],by omega,by omega,by omega,by go_num,by simp,BufI.nil (Keep.refl _ _),L⟩
 case round =>
  obtain⟨f,j,z,R,ad,hf,rfl,hz,C,U⟩:=hrel;obtain⟨f,rfl⟩:∃q,f=q+1:=⟨f-1,by omega⟩;obtain⟨va,vc,rfl⟩:=C.shape;have k:Hid (BufI .u8 w z (.slice va z.length vc) wr):=C;have P:Hid ((if j<t.n/\t.T j=34 then some (z,j+1) else if (chr t j false).2=0 then none else udG t f (j+(chr t j false).2) (z++[(chr t j false).1]))=r):=U;have l:Hid (TxA Q wr a t):=HT.out.keep C.2;clear C U L;by_cases I:j<t.n/\t.T j=34
  ·obtain⟨J,S⟩:=I;obtain⟨b,off,rfl,_,s⟩:=l.out.at J;have N:=s j J;rw[S]at N;have hq1':(j:Int)<t.n:=(by omega);clear s;go_wp2;go_ret2;have e:=P.out;rw[if_pos ⟨J,S⟩]at e;subst e;exact⟨k.out.2,_,_,by congr 3,k.out.ints⟩
  have O:Hid (¬(j<t.n/\t.T j=34)):=I;obtain⟨x1,x2,V⟩:=jS t j false R;have B:Hid (∀w,TxA Q w a t->Calls Tryz.prog 140 #[.slice a t.n c,.int .i64 j,.bool false] w (udr (chr t j false).1 ((chr t j false).2:Nat) w)):=λw h=>uaU Q t a c j false w h R
  have H:Hid ((if (chr t j false).2=0 then none else udG t f (j+(chr t j false).2) (z++[(chr t j false).1]))=r):=by
   have:=P.out;rw[if_neg I]at this;exact this
  generalize chr t j false=p at *;obtain⟨g,y⟩:=p;simp only at x1 x2 V B H;have X:Hid (∀W1,Keep (λ_=>False) wr W1->¬y=0->∀A o,OwnC (λb=>New w wr b\/W1.heap.size<=b) o A 1 (z.length+1) (uS .u8 (lf z) z.length++[.int .u8 g])->Grew (New w wr) W1 o->∃(f x:Nat) (z:List Int),x<=t.n/\i<x/\t.n-x<f/\Value.int .i64 ((j:Int)+y)=.int .i64 x/\z.length<=x/\BufI .u8 w z A o/\udG t f x z=r):=by
   intro W1 ab F A o E D;have e:=H;rw[if_neg F]at e;exact⟨f,j+y,z++[g],V,by omega,by omega,by simp,by simp;omega,BufI.snoc k.2 ab E D,e⟩
  by_cases F:y=0
  ·subst F;have e:=H;rw[if_pos rfl]at e;subst e;by_cases d:j<t.n
   ·have hjn':(j:Int)<t.n:=(by omega);obtain⟨b,off,rfl,_,s⟩:=l.at d;have N:=s j d;have y1:(t.T j==34)=false:=by simpa using λq=>O ⟨d,q⟩
    have b0:=t.byt j;go_wp2_with fail;refine(B wr l).mono ?_;rintro e W ⟨rfl,m,rfl⟩;go_wp2;go_ret2;exact⟨k.2.trans (uX _ _),rfl⟩
   have hjn':¬(j:Int)<t.n:=(by omega);go_wp2_with fail;refine(B wr l).mono ?_;rintro e W ⟨rfl,m,rfl⟩;go_wp2;go_ret2;exact⟨k.2.trans (uX _ _),rfl⟩
  have hp':¬(y:Int)=0:=by omega
  by_cases d:j<t.n
  ·have hjn':(j:Int)<t.n:=(by omega);obtain⟨b,off,rfl,_,s⟩:=l.at d;have N:=s j d;have y1:(t.T j==34)=false:=by simpa using λq=>O ⟨d,q⟩
   have b0:=t.byt j;go_wp2_with fail;refine(B wr l).mono ?_;rintro e W ⟨rfl,m,rfl⟩;have G:=X _ ((uX wr m).trans (Keep.alloc _ _ (.cells #[.int .u8 g] 5))) F;have G:=G;have aa:Hid (Src Tryz.prog 1 22 (.slice (some ⟨(wr.drewN m).heap.size,0,none⟩) 1 1) 1 [.int .u8 g] ((wr.drewN m).alloc (.cells #[.int .u8 g] 5))):=ufZ _ _;have Z:=ua (k.1.on (λb hb=>((uX wr m).trans (Keep.alloc _ _ (.cells #[.int .u8 g] 5))).block b hb.2 (λq=>q)));go_wp2_with (at_builtin;refine uaL rfl _ _ 22 22 rfl rfl rfl qw (Q:=New w wr) (n:=z.length) (cs:=uS .u8 (lf z) z.length) (m:=1) (news:=[.int .u8 g]) Z aa (by omega) ?_;intro A o E D ac;have Y:Hid _:=G A o E D;clear E D ac);go_roundw;all_goals first
    |exact Y
    |(simp[intOf];omega)
    |omega
  omega
def ub1(W:World)(cs:Array Value):World:=(W.alloc (.cells cs 5)).freeze ⟨W.heap.size,cs.size,none⟩ 1
theorem uo0 W cs k c:(convert 22 22 (.slice (some ⟨W.heap.size,0,none⟩) k c)).run Tryz.prog (W.alloc (.cells cs 5))=.ok (.slice (some ⟨W.heap.size,0,none⟩) k c) (ub1 W cs):=by
 have a:(W.alloc (.cells cs 5)).shape? W.heap.size=some (5,cs.size):=by
  simp[World.shape?,World.alloc,-World.alloc_eq]
 simp[convert,run_underlying Tryz.underlying22,run_underlying Tryz.underlying5,markStringish,a,ub1,Result.andThen]
theorem umn W cs j(b:j<W.heap.size):(ub1 W cs).heap[j]?=W.heap[j]?:=by
 have a:W.heap.size≠j:=by omega
 simp[ub1,World.freeze,World.alloc,-World.alloc_eq,Array.getElem?_modify,Array.getElem?_push,a,Ne.symm a]
theorem ugR W cs:(ub1 W cs).heap[W.heap.size]?=some (.cells cs 5 (cs.size,cs.size+1)):=by
 simp[ub1,World.freeze,World.alloc,-World.alloc_eq];rw[Array.getElem_modify_self];simp
theorem ueJ W cs:(ub1 W cs).heap.size=W.heap.size+1:=by
 simp[ub1,World.freeze,World.alloc,-World.alloc_eq]
theorem ukM W cs:Keep (λ_=>False) W (ub1 W cs):=⟨rfl,rfl,rfl,by rw[ueJ];omega,λb a _=>umn W cs b a⟩
theorem ueK W cs j:(ub1 W cs).cell? ⟨W.heap.size,j,none⟩=cs[j]?:=by
 simp only[World.cell?,ugR];simp
theorem ugS W cs j(a:j<cs.size):(ub1 W cs).frozen? ⟨W.heap.size,j,none⟩=false:=by
 simp only[World.frozen?,ugR];simp;omega
theorem uq9{ops:Array Oper}{rest o a b W cs k c}(e:o.guard=none)x(f:o.op=.convert 22 22 x)(i:a.eval x=.slice (some ⟨W.heap.size,0,none⟩) k c)(h:∀w',w'=ub1 W cs->wpList Tryz.prog ops b rest (a.put o.dst (.slice (some ⟨W.heap.size,0,none⟩) k c)) w'):wpList Tryz.prog ops b (o::rest) a (W.alloc (.cells cs 5)):=by
 refine wpList_plain e λK d=>?_
 have g:=uo0 W cs k c;unfold Oper.wp execOp;simp only[f,Sem.run_bind,Sem.run_pure,Result.andThen_ok,i,g];exact d _ _ (h _ rfl)
end Go.Proofs.YtimfigongapdnaaGreat
