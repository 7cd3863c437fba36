import Derived.Test.YtpghlcdkfldlpaaGreatT04
set_option linter.unusedVariables false
set_option linter.unusedSimpArgs false
set_option maxHeartbeats 40000000
set_option maxRecDepth 100000
namespace Go.Proofs.YtpghlcdkfldlpaaGreat
structure NdD where
 kind:Int
 arg:Int
 frm:Int
 to:Int
 par:Int
def NdC(w:World)(b o:Nat)(d:NdD):Prop:=w.cell? ⟨b,o,none⟩=some (.int .i64 d.kind)/\w.cell? ⟨b,o+1,none⟩=some (.int .i64 d.arg)/\w.cell? ⟨b,o+2,none⟩=some (.int .i64 d.frm)/\w.cell? ⟨b,o+3,none⟩=some (.int .i64 d.to)/\w.cell? ⟨b,o+4,none⟩=some (.int .i64 d.par)
def cls(E:Nat->EvD)(i:Nat):Bool:=(E i).kind==2
def opn(E:Nat->EvD):Nat->Int
 |0=>0
 |i+1=>if cls E i then opn E i-1 else opn E i+1
structure urW(E:Nat->EvD)(i:Nat):Prop where
 lo:0<=(E i).kind
 hi:(E i).kind<=2
 pos:0<=(E i).pos
 asc:0<i->(E (i-1)).pos<=(E i).pos
 room:0<=opn E (i+1)
def Pre(E:Nat->EvD)(i:Nat):Prop:=∀j,j<i->urW E j
def uhL(E:Nat->EvD)(n:Nat):Prop:=Pre E n/\opn E n=0
def ops(E:Nat->EvD):Nat->List Nat
 |0=>[]
 |i+1=>if cls E i then ops E i else ops E i++[i]
def num(E:Nat->EvD)(i:Nat):Nat:=(ops E i).length
def las(E:Nat->EvD):Nat->Int->Int
 |0,d=>if d=0 then -1 else 0
 |i+1,d=>if cls E i=false/\d=opn E i+1 then (num E i:Int) else las E i d
def ueb(E:Nat->EvD)(n:Nat):Nat->Int->Int
 |0,_=>0
 |k+1,d=>if cls E (n-(k+1))=true/\opn E (n-(k+1))=d then (E (n-(k+1))).pos else ueb E n k d
def tov(E:Nat->EvD):Nat->Nat->Int
 |0,_=>0
 |i+1,j=>if cls E i=true/\las E i (opn E i)=(num E j:Int) then (E i).pos else tov E i j
theorem qx{E i}(h:Pre E i):0<=opn E i:=by
 cases i with
 |zero=>simp[opn]
 |succ i=>exact(h i (by omega)).room
theorem Pre.less{E i j}(h:Pre E i)(a:j<=i):Pre E j:=λk b=>h k (by omega)
theorem uec E{i j}(h:i<=j):num E i<=num E j:=by
 induction j with
 |zero =>
   obtain rfl:i=0:=(by omega);exact Nat.le_refl _
 |succ j a =>
  by_cases e:i=j+1
  ·subst e;exact Nat.le_refl _
  have:=a (by omega);have b:num E j<=num E (j+1):=by
   unfold num;rw[ops];split<;>simp
  omega
theorem ubN E{i}(h:cls E i=false):num E (i+1)=num E i+1:=by unfold num;rw[ops,h];simp
theorem uce E{i j}(h:cls E i=false)(c:i<j):num E i<num E j:=by
 have a:=ubN E h;have b:=uec E (show i+1<=j by omega);omega
theorem urm E i:num E i<=i:=by
 induction i with
 |zero=>exact Nat.le_refl _
 |succ i a =>
  unfold num at *;rw[ops];cases cls E i<;>simp<;>omega
theorem upx E{n j}(h:j∈ops E n):j<n/\cls E j=false:=by
 induction n with
 |zero=>simp[ops]at h
 |succ n b =>
  rw[ops]at h;cases a:cls E n with
  |true=>rw[a]at h;simp at h;have:=b h;exact⟨by omega,this.2⟩
  |false =>
   rw[a]at h;simp at h;rcases h with h|rfl
   ·have:=b h;exact⟨by omega,this.2⟩
   exact⟨by omega,a⟩
theorem ui8 E{j}(b:cls E j=false):∀{n:Nat},j<n->(ops E n)[num E j]?=some j:=by
 intro n;induction n with
 |zero=>intro h;omega
 |succ n c =>
  intro h;by_cases e:j=n
  ·subst e;rw[ops,b];simp[num]
  have a:=c (by omega);rw[ops];cases d:cls E n with
  |true=>simpa using a
  |false =>
   simp only[Bool.false_eq_true,if_false];rw[List.getElem?_append_left (uce E b (by omega))];exact a
structure urX(E:Nat->EvD)(i:Nat):Prop where
 zero:las E i 0 = -1
 ge:∀d,1<=d->d<=opn E i->0<=las E i d
 lt:∀d,0<=d->d<=opn E i->las E i d<num E i
 mono:∀d e,0<=d->d<e->e<=opn E i->las E i d<las E i e
 chain:∀d,1<=d->d<=opn E i->∃j,j<i/\cls E j=false/\las E i d=(num E j:Int)/\las E j (opn E j)=las E i (d-1)/\opn E j+1=d
theorem kY{E i}(a:cls E i=false)d:las E (i+1) d=if d=opn E i+1 then (num E i:Int) else las E i d:=by
 rw[las];simp[a]
theorem kI{E i}(a:cls E i=true)d:las E (i+1) d=las E i d:=by
 rw[las];simp[a]
theorem yD{E i}(a:cls E i=false):opn E (i+1)=opn E i+1:=by rw[opn];simp[a]
theorem ym{E i}(a:cls E i=true):opn E (i+1)=opn E i-1:=by rw[opn];simp[a]
theorem ucf{E i}(a:cls E i=true):num E (i+1)=num E i:=by unfold num;rw[ops];simp[a]
theorem ucg{E i}(h:Pre E i):urX E i:=by
 induction i with
 |zero =>
  have l:opn E 0=0:=rfl;refine⟨by simp[las],λd a c=>by omega,λd a c=>?_,λd e l a c=>by omega,λd a c=>by omega⟩;obtain rfl:d=0:=by omega
  simp[las,num,ops]
 |succ i t =>
  have r:=h.less (show i<=i+1 by omega);have k:=t r;have g:=qx r;have v:=qx h;cases f:cls E i with
  |false =>
   have s:=yD f;have b:=kY f;have q:=ubN E f;refine⟨?_,λd a c=>?_,λd a c=>?_,λd e l a c=>?_,λd a c=>?_⟩
   ·rw[b,if_neg (by omega)];exact k.zero
   ·rw[b];split
    ·omega
    exact k.ge d a (by omega)
   ·rw[b];split
    ·omega
    have:=k.lt d a (by omega);omega
   ·rw[b,b,if_neg (show ¬d=_ by omega)];split
    ·exact k.lt d l (by omega)
    exact k.mono d e l a (by omega)
   by_cases e:d=opn E i+1
   ·refine⟨i,by omega,f,?_,?_,e.symm⟩
    ·rw[b,if_pos e]
    rw[b,if_neg (by omega),show d-1=opn E i by omega]
   obtain⟨j,u,m,n,o,p⟩:=k.chain d a (by omega);refine⟨j,by omega,m,?_,?_,p⟩
   ·rw[b,if_neg e];exact n
   rw[b,if_neg (by omega)];exact o
  |true =>
   have s:=ym f;have b:=kI f;have q:=ucf f;refine⟨?_,λd a c=>?_,λd a c=>?_,λd e l a c=>?_,λd a c=>?_⟩
   ·rw[b];exact k.zero
   ·rw[b];exact k.ge d a (by omega)
   ·rw[b,q];exact k.lt d a (by omega)
   ·rw[b,b];exact k.mono d e l a (by omega)
   obtain⟨j,u,m,n,o,p⟩:=k.chain d a (by omega);exact⟨j,by omega,m,by rw[b];exact n,by rw[b];exact o,p⟩
theorem ufh{E i j}(h:Pre E i)(d:i<=j):tov E i j=0:=by
 induction i with
 |zero=>rfl
 |succ i b =>
  have a:=h.less (show i<=i+1 by omega);rw[tov,if_neg,b a (by omega)];rintro⟨c,e⟩;have k:=(ucg a).lt (opn E i) (qx a) (Int.le_refl _);have:=uec E (show i<=j by omega);omega
theorem uch E{n i}(b:i<n)d:ueb E n (n-i) d=if cls E i=true/\opn E i=d then (E i).pos else ueb E n (n-(i+1)) d:=by
 obtain⟨k,a⟩:∃k,n-i=k+1:=⟨n-i-1,by omega⟩;rw[a,ueb,show n-(k+1)=i by omega,show n-(i+1)=k by omega]
theorem upy{E n j}(h:uhL E n)(u:j<n)(c:cls E j=false):tov E n j=ueb E n (n-j) (opn E j+1):=by
 obtain⟨f,B⟩:=h;have x:∀i,j<i->i<=n ->
   (opn E j+1<=opn E i/\las E i (opn E j+1)=(num E j:Int)/\tov E i j=0/\ueb E n (n-j) (opn E j+1)=ueb E n (n-i) (opn E j+1)) \/
   ((∀e,1<=e->e<=opn E i->las E i e≠(num E j:Int))/\tov E i j=ueb E n (n-j) (opn E j+1)):=by
  intro i;induction i with
  |zero=>intro h;omega
  |succ i w =>
   intro C D;have p:=f.less (show i<=n by omega);have y:=qx p;have A:=qx (f.less (show j<=n by omega));have z:=qx (f.less (show i+1<=n by omega));have k:=ucg p;by_cases e:i=j
   ·subst e;refine .inl ⟨by rw[yD c];omega,by rw[kY c,if_pos rfl],?_,?_⟩
    ·rw[tov,if_neg (by simp[c]),ufh p (Nat.le_refl _)]
    rw[uch E (by omega),if_neg (by simp[c])]
   rcases w (by omega) (by omega) with⟨t,g,r,l⟩|⟨b1,s⟩
   ·cases a:cls E i with
    |false =>
     refine .inl ⟨by rw[yD a];omega,by rw[kY a,if_neg (by omega)];exact g,by rw[tov,if_neg (by simp[a])];exact r,?_⟩;rw[l,uch E (show i<n by omega),if_neg (by simp[a])]
    |true =>
     have v:=ym a;by_cases m:opn E i=opn E j+1
     ·refine .inr ⟨λe d o=>?_,?_⟩
      ·rw[kI a];have:=k.mono e (opn E j+1) (by omega) (by omega) (by omega);omega
      rw[tov,if_pos ⟨a,by rw[m];exact g⟩,l,uch E (show i<n by omega),if_pos ⟨a,m⟩]
     refine .inl ⟨by omega,by rw[kI a];exact g,?_,?_⟩
     ·rw[tov,if_neg];exact r;rintro⟨_,q⟩;have:=k.mono (opn E j+1) (opn E i) (by omega) (by omega) (by omega);omega
     rw[l,uch E (show i<n by omega),if_neg (by simp[m])]
   cases a:cls E i with
   |false =>
    refine .inr ⟨λe d o=>?_,by rw[tov,if_neg (by simp[a])];exact s⟩;rw[yD a]at o;rw[kY a];split
    ·have:=uce E c (show j<i by omega);omega
    exact b1 e d (by omega)
   |true =>
    have v:=ym a;refine .inr ⟨λe d o=>?_,?_⟩
    ·rw[kI a];exact b1 e d (by omega)
    rw[tov,if_neg];exact s;rintro⟨_,q⟩;exact b1 _ (by omega) (Int.le_refl _) q
 rcases x n u (Nat.le_refl _) with⟨t,_⟩|⟨_,b⟩
 ·have:=qx (f.less (show j<=n by omega));omega
 exact b
theorem uka E{n q x}(h:(ops E n)[q]?=some x):q=num E x:=by
 induction n with
 |zero=>simp[ops]at h
 |succ n b =>
  rw[ops]at h;cases a:cls E n with
  |true=>rw[a]at h;exact b (by simpa using h)
  |false =>
   rw[a]at h;simp only[Bool.false_eq_true,if_false]at h;by_cases d:q<(ops E n).length
   ·rw[List.getElem?_append_left d]at h;exact b h
   rw[List.getElem?_append_right (by omega)]at h;have:q-(ops E n).length=0:=by
    by_cases e:q-(ops E n).length=0
    ·exact e
    obtain⟨k,c⟩:∃k,q-(ops E n).length=k+1:=⟨q-(ops E n).length-1,by omega⟩;rw[c]at h;simp at h
   rw[this]at h;simp at h;subst h;unfold num;omega
theorem ued{α:Type}{f a:Nat->List α}(l:List Nat)(h:∀y,y∈l->a y=f y):l.flatMap a=l.flatMap f:=by
 induction l with
 |nil=>rfl
 |cons y l c=>rw[List.flatMap_cons,List.flatMap_cons,h y (by simp),c (λz b=>h z (by simp[b]))]
theorem ufi{α:Type}(f a:Nat->List α)(v:α):∀(l:List Nat) (k:Nat),(∀x,x∈l->(f x).length=5)->k<l.length->(∀q x,l[q]?=some x->a x=if q=k then (f x).set 3 v else f x) ->
  (l.flatMap f).set (k*5+3) v=l.flatMap a
 |[],k,_,hk,_=>by simp at hk
 |x::l,0,hl,_,h=>by
  have b:=h 0 x rfl;have g:l.flatMap a=l.flatMap f:=by
   have:∀y,y∈l->a y=f y:=λy d=>by
    obtain⟨q,c,rfl⟩:=List.getElem_of_mem d;have:=h (q+1) l[q] (by simp[c]);rw[this,if_neg (by omega)]
   exact ued l this
  rw[List.flatMap_cons,List.flatMap_cons,g,b,if_pos rfl,List.set_append_left _ _ (by rw[hl x (by simp)];omega)]
 |x::l,k+1,hl,hk,h=>by
  have b:=h 0 x rfl;rw[if_neg (by omega)]at b;rw[List.flatMap_cons,List.flatMap_cons,b,List.set_append_right _ _ (by rw[hl x (by simp)];omega),hl x (by simp),show(k+1)*5+3-5=k*5+3 by omega];rw[ufi f a v l k (λy d=>hl y (by simp[d])) (by simpa using hk) (λq y c=>?_)];have:=h (q+1) y (by simpa using c);rw[this];by_cases e:q=k
  ·rw[if_pos e,if_pos (by omega)]
  rw[if_neg e,if_neg (by omega)]
theorem ull{α:Type}(f:Nat->List α)(l:List Nat)(h:∀x,x∈l->(f x).length=5):(l.flatMap f).length=l.length*5:=by
 induction l with
 |nil=>rfl
 |cons x l b =>
  rw[List.flatMap_cons,List.length_append,h x (by simp),b (λy a=>h y (by simp[a])),List.length_cons];omega
theorem uci{α:Type}(f:Nat->List α):∀(l:List Nat) (i j x:Nat),(∀x,x∈l->(f x).length=5)->l[i]?=some x->j<5->(l.flatMap f)[i*5+j]?=(f x)[j]?
 |[],i,j,x,_,h,_=>by simp at h
 |y::l,0,j,x,hl,h,hj=>by
  simp at h;subst h;rw[List.flatMap_cons,List.getElem?_append_left (by rw[hl y (by simp)];omega)];simp
 |y::l,i+1,j,x,hl,h,hj=>by
  simp at h;rw[List.flatMap_cons,List.getElem?_append_right (by rw[hl y (by simp)];omega),hl y (by simp),show(i+1)*5+j-5=i*5+j by omega];exact uci f l i j x (λz a=>hl z (by simp[a])) h hj
def ndI(E:Nat->EvD)(i j:Nat):NdD:=⟨(E j).kind,(E j).arg,(E j).pos,tov E i j,las E j (opn E j)⟩
def ndv(d:NdD):List Value:=[.int .i64 d.kind,.int .i64 d.arg,.int .i64 d.frm,.int .i64 d.to,.int .i64 d.par]
theorem uc0 d:(ndv d).length=5:=rfl
def xU(E:Nat->EvD)(i:Nat):List Value:=(ops E i).flatMap (λj=>ndv (ndI E i j))
theorem ulm{E i}(b:Pre E i)(h:cls E i=false):xU E (i+1)=xU E i++ndv ⟨(E i).kind,(E i).arg,(E i).pos,0,las E i (opn E i)⟩:=by
 unfold xU;have e:∀j,tov E (i+1) j=tov E i j:=λj=>by rw[tov,if_neg (by simp[h])]
 have a:ndI E (i+1) i=⟨(E i).kind,(E i).arg,(E i).pos,0,las E i (opn E i)⟩:=by unfold ndI;rw[e,ufh b (Nat.le_refl _)]
 rw[ops,h];simp only[Bool.false_eq_true,if_false,List.flatMap_append,List.flatMap_cons,List.flatMap_nil,List.append_nil];rw[a];congr 1;refine ued _ (λj _=>?_);unfold ndI;rw[e]
theorem ui9{E}{i k:Nat}(h:cls E i=true)(b:las E i (opn E i)=(k:Int))(c:k<num E i):xU E (i+1)=(xU E i).set (k*5+3) (.int .i64 (E i).pos):=by
 unfold xU;rw[ops,h];simp only[if_true];refine(ufi _ _ _ _ k (λx _=>uc0 _) c (λq x f=>?_)).symm;have d:=uka E f;by_cases e:q=k
 ·have a:tov E (i+1) x=(E i).pos:=by rw[tov,if_pos ⟨h,by rw[b,<-e,d]⟩]
  rw[if_pos e];unfold ndI;rw[a];rfl
 have a:tov E (i+1) x=tov E i x:=by rw[tov,if_neg (λg=>e (by have:=g.2;rw[b]at this;omega))]
 rw[if_neg e];unfold ndI;rw[a]
theorem uee E i:(xU E i).length=num E i*5:=ull _ _ (λ_ _=>uc0 _)
end Go.Proofs.YtpghlcdkfldlpaaGreat
