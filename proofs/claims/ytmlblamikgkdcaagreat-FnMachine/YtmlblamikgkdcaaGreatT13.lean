import Derived.Test.YtmlblamikgkdcaaGreatT12
set_option linter.unusedVariables false
set_option linter.unusedSimpArgs false
set_option linter.defProp false
set_option maxHeartbeats 40000000
set_option maxRecDepth 100000
namespace Go.Proofs.YtmlblamikgkdcaaGreat
open Go.RowKit
open Go.Proofs.Tryz
open M (OpD ug Gr)
structure Dg(n:Nat)(x:zI):Prop where
 h:zW x.nm
 c:x.nm.length<=n
 set:x.set = []\/∃M,x.set=rg M 256
 cls:x.e=91->∃M,x.set=rg M 256
 f:x.e=110->(∀y∈x.nm,yi y)/\∃y r,x.nm=y::r/\M.bD y
def RV t:∀(f j:Nat) (z:LI),zW z->(∀y∈z,yi y)->j<=t.n->zW (vQ t f j z).1/\(∀y∈(vQ t f j z).1,yi y)/\(vQ t f j z).1.length+j=z.length+(vQ t f j z).2/\(∃r,(vQ t f j z).1=z++r)
 |0,j,z,hb,hc,hj=>⟨hb,hc,rfl,[],by rw[Dl];rfl⟩
 |f+1,j,z,hb,hc,hj=>by
  rw[vQ];split
  .rename_i h;have g:∀y∈z++[t.T j],yi y:=λy a=>by
    rcases By.1 a with q|q
    .exact hc y q
    rw[Bu.1 q];exact h.2
   have i:zW (z++[t.T j]):=λy a=>by
    rcases By.1 a with q|q
    .exact hb y q
    rw[Bu.1 q];exact t.h j
   let⟨b,c,d,r,e⟩:=RV t f (j+1) _ i g h.1;refine⟨b,c,?_,t.T j::r,by rw[e];simp⟩;simp at d;omega
  exact⟨hb,hc,rfl,[],by rw[Dl]⟩
def RW t:∀(f j:Nat) (z:LI) (r:List Int×Nat),zW z->j<=t.n->Ij t f j z=some r->zW r.1/\r.1.length+j<=z.length+r.2
 |0,j,z,r,hb,hj,h=>by rw[Ij]at h;cases h
 |f+1,j,z,r,hb,hj,h=>by
  rw[Ij]at h;split at h
  .injection h with h;subst h;exact⟨hb,sM⟩
  split at h
  .cases h
  rename_i e;have a:=kt t j false hj;let⟨b,c⟩:=RW t f _ _ r (λy d=>by
   rcases By.1 d with q|q
   .exact hb y q
   rw[Bu.1 q];exact⟨a.1,a.2.1⟩) a.2.2 h
  refine⟨b,?_⟩;simp at c;omega
def RX t{i}(a:i<t.n):Dg t.n (vO t i).1/\((vO t i).1.e≠0->(vO t i).1.nm.length+i<=(vO t i).2)/\((vO t i).1.e=0->(vO t i).1.nm = []):=by
 have c:zW []:=λy b=>by cases b
 have m:Dg t.n (⟨0,i,[],[]⟩:zI):=⟨c,zK,.inl rfl,(λh=>aB h (by show(0:Int)≠91;omega)),(λh=>aB h (by show(0:Int)≠110;omega))⟩;unfold vO;split
 .rename_i f;have o:t.n-i=(t.n-i-1)+1:=oM;rw[o,vQ,Zp ⟨a,.inl f⟩,Hm];have g:zW [t.T i]:=λy b=>by rw[Bu.1 b];exact t.h i
  have d:∀y∈[t.T i],yi y:=λy b=>by rw[Bu.1 b];exact .inl f
  let⟨k,l,u,r,v⟩:=RV t (t.n-i-1) (i+1) [t.T i] g d a;have A:=GV t (t.n-i-1) (i+1) [t.T i] a;simp only[Dd]at u;refine⟨⟨k,by first|(simp only;omega)|omega,.inl rfl,(λh=>aB h (by show(110:Int)≠91;omega)),λ_=>⟨l,t.T i,r,by rw[v];rfl,f⟩⟩,(λ_=>by first|(simp only;omega)|omega),(λh=>aB h (by show(110:Int)≠0;omega))⟩
 rename_i f;split
 .rename_i s;cases h:Ks t i with
  |none=>exact⟨m,(λq=>absurd rfl q),(λ_=>rfl)⟩
  |some q =>
   obtain⟨z,j⟩:=q;have p:=GH a h;let⟨k,l⟩:=RW t _ _ _ _ c a h;simp only[Iw,Bp]at l p;simp only;exact⟨⟨k,by first|(simp only;omega)|omega,.inl rfl,(λh=>aB h (by show(34:Int)≠91;omega)),(λh=>aB h (by show(34:Int)≠110;omega))⟩,(λ_=>by first|(simp only;omega)|omega),(λh=>aB h (by show(34:Int)≠0;omega))⟩
 split
 .cases h:Hr t i with
  |none=>exact⟨m,(λq=>absurd rfl q),(λ_=>rfl)⟩
  |some q =>
   obtain⟨z,j⟩:=q;have p:=GJ a h;have g:∃M,z=rg M 256:=by
    unfold Hr at h;cases d:xy t (t.n+2-i) (Mo t i) (λ_=>false) with
    |none=>rw[d]at h;cases h
    |some q=>rw[d]at h;injection h with h;injection h with o s;exact⟨_,o.symm⟩
   simp only at p ⊢;exact⟨⟨c,zK,.inr g,(λ_=>g),(λh=>aB h (by show(91:Int)≠110;omega))⟩,(λ_=>sO),(λh=>aB h (by show(91:Int)≠0;omega))⟩
 split
 .rename_i s w x;simp only;refine⟨⟨c,zK,.inl rfl,(λh=>aB h w),(λh=>?_)⟩,(λ_=>sM),(λ_=>by trivial)⟩;have h:t.T i=110:=h;exact aB x (by rw[h];decide)
 simp only;exact⟨m,(λq=>aB rfl q),(λ_=>by trivial)⟩
def Cy:List zI->Nat
 |[]=>0
 |x::r=>x.nm.length+1+Cy r
def ko a b:Cy (a++b)=Cy a+Cy b:=by
 induction a with
 |nil=>simp[Cy]
 |cons x a c=>rw[Fc,Cy,Cy,c];omega
def qJ a:a.length<=Cy a:=by
 induction a with
 |nil=>simp[Cy]
 |cons x a b=>rw[Cy,Db];omega
def RY t:∀f i,i<=t.n->(∀x∈yX t f i,Dg t.n x)/\Cy (yX t f i)<=2*(t.n-i)
 |0,i,hi=>⟨(λx a=>by cases a),zK⟩
 |f+1,i,hi=>by
  rw[yX];split
  .rename_i d;let⟨c,g,h⟩:=RX t d;split
   .rename_i b;refine⟨λx a=>by rw[Bu.1 a];exact c,?_⟩;have:=h b;simp[Cy,this];omega
   rename_i b;have j:=Wz t d b;have m:=Zz t (vO t i).2;have k:=AA t j.2;let⟨e,l⟩:=RY t f (skip t (vO t i).2) k;have:=g b;refine⟨λx a=>?_,?_⟩
   .rcases Dm.1 a with rfl|q
    .exact c
    exact e x q
   rw[Cy];omega
  exact⟨(λx a=>by cases a),zK⟩
def Zx t:(∀x∈uY t,Dg t.n x)/\Cy (uY t)<=2*t.n:=by
 have h:=RY t (t.n+1) (skip t 0) (AA t zK);exact⟨h.1,zP h.2 oM⟩
def Dg.ok{n x}(h:Dg n x)(a:n<=400000):QK x:=by
 refine⟨h.h,zP h.c a,?_⟩;rcases h.set with q|⟨M,q⟩
 .rw[q];exact zK
 rw[q];exact zP (Uu M 256) oM
def unm z:(yE z).length<=2*z.length+1:=by
 cases z with
 |nil=>simp[yE,uv]
 |cons x r=>rw[yE,qG];simp[uL];omega
def SA(rs ls:List LI)(e:PE):(∀l,l<=3->e.ok l->(e.e rs ls).length+1<=4*Cy e.tk)/\(e.ok 5->(e.e rs ls).length<=4*Cy e.tk+1):=by
 induction e with
 |ref t|thr c t=>exact⟨λl f h=>by simp[PE.e,PE.tk,uv,Cy];omega,λh=>by simp[PE.e,PE.tk,uv,Cy]⟩
 |str t=>have:=unm t.nm;exact⟨λl f h=>by simp[PE.e,PE.tk,Cy];omega,λh=>by simp[PE.e,PE.tk,Cy];omega⟩
 |cls t|dot t=>exact⟨λl f h=>by simp[PE.e,PE.tk,uL,Cy];omega,λh=>by simp[PE.e,PE.tk,uL,Cy]⟩
 |grp o e c g =>
  have d:e.ok 5->(e.e rs ls).length+1<=4*Cy (PE.grp o e c).tk:=λh=>by have:=g.2 h;simp only[PE.tk,Cy,ko];omega
  exact⟨λl f h=>d h.2.2,λh=>by have:=d h.2.2;simp only[PE.e];omega⟩
 |star e t g =>
  have d:e.ok 0->(Bq 6 (e.e rs ls)).length+1<=4*Cy (PE.star e t).tk:=λh=>by have:=g.1 0 oM h;simp only[PE.tk,Cy,ko,Bq,zJ,Dd];omega
  exact⟨λl f h=>d h.2.2,λh=>by have:=d h.2.2;simp only[PE.e];omega⟩
 |opt e t g =>
  have d:e.ok 0->(uM 5 (e.e rs ls) (uv 0 0)).length+1<=4*Cy (PE.opt e t).tk:=λh=>by have:=g.1 0 oM h;simp only[PE.tk,Cy,ko,uM,uv,zJ,Dd];omega
  exact⟨λl f h=>d h.2.2,λh=>by have:=d h.2.2;simp only[PE.e];omega⟩
 |not t e g =>
  have d:e.ok 2->(Bq 7 (e.e rs ls)).length+1<=4*Cy (PE.not t e).tk:=λh=>by have:=g.1 2 oM h;simp only[PE.tk,Cy,Bq,zJ,Dd];omega
  exact⟨λl f h=>d h.2.2,λh=>by have:=d h.2.2;simp only[PE.e];omega⟩
 |amp t e g =>
  have d:e.ok 2->(Bq 7 (Bq 7 (e.e rs ls))).length+1<=4*Cy (PE.amp t e).tk:=λh=>by have:=g.1 2 oM h;simp only[PE.tk,Cy,Bq,zJ,Dd];omega
  exact⟨λl f h=>d h.2.2,λh=>by have:=d h.2.2;simp only[PE.e];omega⟩
 |emp=>exact⟨λl f h=>absurd (show 4<=l from h) oM,λ_=>by simp[PE.e,uv]⟩
 |seq a b i j =>
  have d:a.ok 3->b.ok 2->(uM 4 (a.e rs ls) (b.e rs ls)).length+1<=4*Cy (PE.seq a b).tk:=λh k=>by have:=i.1 3 oM h;have:=j.1 2 oM k;simp only[PE.tk,ko,uM,zJ,Dd];omega
  exact⟨λl f h=>d h.2.1 h.2.2,λh=>by have:=d h.2.1 h.2.2;simp only[PE.e];omega⟩
 |alt a t b i j =>
  refine⟨λl f h=>aB h.1 oM,λh=>?_⟩;have:=i.2 h.2.2.1;have:=j.2 (PE.c b oM h.2.2.2);simp only[PE.e,PE.tk,Cy,ko,uM,zJ,Dd];omega
def unn:∀z,∀x∈yE z,x.sl<=2:=by
 have c:∀(r:LI) (D:List OpD),(∀x∈D,x.sl<=2)->∀x∈r.foldl (λd y=>d++uL (vB y)++[Cq 4 0]) D,x.sl<=2:=by
  intro r;induction r with
  |nil=>exact λD h=>h
  |cons y r b =>
   intro D h;rw[List.foldl_cons];refine b _ (λx a=>?_);simp only[By,Bu]at a;rcases a with (q|q)|q
   .exact h x q
   .rw[uL]at q;rw[Bu.1 q];exact zD
   rw[q];exact zK
 intro z;cases z with
 |nil=>intro x a;rw[yE,uv]at a;rw[Bu.1 a];exact zK
 |cons y r=>exact c r _ (λx a=>by rw[uL]at a;rw[Bu.1 a];exact zD)
def SB{rs ls:List LI}{e:PE}(N:Nat)(j:2<=N)(h:∀t∈e.tk,t.set.length<=N):∀x∈e.e rs ls,x.sl<=N:=by
 have leaf:∀k a,∀x∈uv k a,x.sl<=N:=λk a x d=>by rw[uv]at d;rw[Bu.1 d];exact zK
 have un:∀k D,(∀x∈D,x.sl<=N)->∀x∈Bq k D,x.sl<=N:=λk D h x d=>by
  rw[Bq]at d;rcases By.1 d with q|q
  .exact h x q
  rw[Bu.1 q];exact zK
 have bin:∀k D i,(∀x∈D,x.sl<=N)->(∀x∈i,x.sl<=N)->∀x∈uM k D i,x.sl<=N:=λk D i h l x d=>by
  rw[uM]at d;simp only[By,Bu]at d;rcases d with (q|q)|q
  .exact h x q
  .exact l x q
  rw[q];exact zK
 induction e with
 |ref t|thr c t|emp=>exact leaf _ _
 |str t=>exact λx d=>zP (unn _ x d) j
 |cls t=>intro x d;rw[PE.e,uL]at d;rw[Bu.1 d];exact h t (by simp[PE.tk])
 |dot t=>intro x d;rw[PE.e,uL]at d;rw[Bu.1 d];exact j
 |grp o e c g=>exact g (λt f=>h t (by simp[PE.tk,f]))
 |star e t g|not t e g=>exact un _ _ (g (λt f=>h t (by simp[PE.tk,f])))
 |opt e t g=>exact bin _ _ _ (g (λt f=>h t (by simp[PE.tk,f]))) (leaf _ _)
 |amp t e g=>exact un _ _ (un _ _ (g (λt f=>h t (by simp[PE.tk,f]))))
 |seq a b iha ihb|alt a t b iha ihb=>exact bin _ _ _ (iha (λt f=>h t (by simp[PE.tk,f]))) (ihb (λt f=>h t (by simp[PE.tk,f])))
def jt(s q:Rl):Bool:=(s.a.isSome==q.a.isSome)&&decide (s.f.nm=q.f.nm)
def jk:List Rl->List Rl->Option Nat
 |_,[]=>none
 |seen,q::r=>if seen.any (λs=>jt s q) then some q.f.f else jk (seen++[q]) r
def uq(b:List Rl):List LI:=(b.filter (λq=>!q.a.isSome)).map (λq=>q.f.nm)
def xq(a:List LI):Bool->List zI->Option Nat
 |_,[]=>none
 |pc,t::r=>if t.e=110/\pc=false/\t.nm ∉ a then some t.f else xq a (t.e==94) r
def xN(a:List LI):List Rl->Option Nat
 |[]=>none
 |q::r=>match xq a false q.e.tk with|some p=>some p|none=>xN a r
def Zy(a ls:List LI)(q:Rl):NL:=⟨q.f.nm,true,q.e.e a ls⟩
def vF(b ls:List LI)(c:List Rl):List NL:=(c.filter (λq=>!q.a.isSome)).map (Zy b ls)
def kR(b ls:List LI)(c:List Rl)(z:LI):NL :=
 match c.find? (λq=>q.a.isSome&&decide (q.f.nm=z)) with
 |some q=>⟨z,true,q.e.e b ls⟩
 |none=>⟨z,false,[]⟩
def vE(a ls:List LI)(b:List Rl):List NL:=ls.map (kR a ls b)
def uZ(ls:List LI)(a:List Rl):Gr:=gram (vF (uq a) ls a) (vE (uq a) ls a)
def Ol:Gr:=gram [] []
def GM:∀{seen b:List Rl},jk seen b=none->∀(i:Nat) (q:Rl),b[i]?=some q->∀s∈seen++b.take i,jt s q=false
 |seen,[],_,i,q,hq=>by simp at hq
 |seen,x::r,h,i,q,hq=>by
  rw[jk]at h;split at h
  .cases h
  rename_i c;have hn':∀s∈seen,jt s x=false:=λs a=>by
   by_cases e:jt s x=true
   .exact aB (List.any_eq_true.2 ⟨s,a,e⟩) c
   simpa using e
  cases i with
  |zero =>
   simp at hq;subst hq;simpa using hn'
  |succ i =>
   simp at hq;have:=GM h i q hq;intro s a;refine this s ?_;simp at a ⊢;exact a
section
open M (OpD ug Gr)
def YB t:∀f g i,t.n-i<f->t.n-i<g->yX t f i=yX t g i
 |0,g,i,h,_=>absurd h oM
 |f+1,0,i,_,h=>absurd h oM
 |f+1,g+1,i,h,k=>by
  rw[yX,yX];by_cases b:i<t.n
  .rw[Zp b,Zp b];by_cases a:(vO t i).1.e=0
   .rw[Zp a,Zp a]
   rw[Zn a,Zn a];have c:=Wz t b a;have d:=Zz t (vO t i).2;rw[YB t f g _ oM oM]
  rw[Zn b,Zn b]
def Lt(t:Tx)(i:Nat):List zI:=yX t (t.n+1) (skip t i)
def uqG{t i}(h:¬skip t i<t.n):Lt t i = []:=by
 unfold Lt;rw[yX,Zn h]
def uqH{t i}(h:skip t i<t.n)(a:(xX t i).1.e=0):Lt t i = [(xX t i).1]:=by
 unfold xX at a ⊢;rw[Zp h]at a ⊢;unfold Lt;rw[yX,Zp h,Zp a]
def unV{t i}(h:skip t i<t.n)(a:(xX t i).1.e≠0):Lt t i=(xX t i).1::Lt t (xX t i).2:=by
 unfold xX at a ⊢;rw[Zp h]at a ⊢;have b:=Wz t h a;have c:=Zz t (vO t (skip t i)).2;unfold Lt;rw[yX,Zp h,Zn a,YB t t.n (t.n+1) _ oM oM]
def us7 t{i}(b:i<=t.n)(a:skip t i<t.n->(xX t i).1.e≠0):(xX t i).2<=t.n:=by
 unfold xX at a ⊢;by_cases h:skip t i<t.n
 .rw[Zp h]at a ⊢;exact(Wz t h (a h)).2
 rw[Zn h];exact zD
def Left(t:Tx)(k:zI)(i:Nat)(l:List zI):Prop:=(l=k::Lt t i/\k.e≠0/\i<=t.n)\/(l = []/\k=⟨0,t.n,[],[]⟩/\i=t.n)
def Left.e{t k i l}(h:Left t k i l):(l = []↔k.e=0):=by
 rcases h with⟨a,b,_⟩|⟨a,b,_⟩
 .subst a;exact⟨(λq=>by cases q),λq=>aB q b⟩
 subst a b;exact⟨λ_=>rfl,λ_=>rfl⟩
def YC{t k i l}(h:Left t k i (k::l))(c:skip t i<t.n->(xX t i).1.e≠0):Left t (xX t i).1 (xX t i).2 l:=by
 rcases h with⟨b,f,d⟩|⟨b,_⟩
 .injection b with _ b;subst b;by_cases a:skip t i<t.n
  .exact .inl ⟨unV a (c a),c a,us7 t d c⟩
  refine .inr ⟨uqG a,?_,?_⟩
  .unfold xX;rw[Zn a]
  unfold xX;rw[Zn a]
 cases b
def YD{t k i l}(h:Left t k i (k::l))(c:∀x∈k::l,x.e≠0)(b:skip t i<t.n):(xX t i).1.e≠0:=λa=>by
 rcases h with⟨e,_⟩|⟨e,_⟩
 .injection e with _ e;exact c _ (by rw[e,uqH b a];simp) a
 cases e
def PE.b:PE->List zI
 |.ref t=>[t]
 |.thr _ _=>[]
 |.str _=>[]
 |.cls _=>[]
 |.dot _=>[]
 |.grp _ e _=>e.b
 |.star e _=>e.b
 |.opt e _=>e.b
 |.not _ e=>e.b
 |.amp _ e=>e.b
 |.emp=>[]
 |.seq a b=>a.b++b.b
 |.alt a _ b=>a.b++b.b
def PE.a:PE->List zI
 |.ref _=>[]
 |.thr _ t=>[t]
 |.str _=>[]
 |.cls _=>[]
 |.dot _=>[]
 |.grp _ e _=>e.a
 |.star e _=>e.a
 |.opt e _=>e.a
 |.not _ e=>e.a
 |.amp _ e=>e.a
 |.emp=>[]
 |.seq a b=>a.a++b.a
 |.alt a _ b=>a.a++b.a
def Sj(x:zI)(s:Vl):List Value:=[Bv (kk x.e),Iv (x.f:Nat),.string (str x.nm.length (lf x.nm)),s]
def Gt:List zI->List Value->Prop
 |[],cs=>cs = []
 |x::r,cs=>∃a n c d,cs=Sj x (.slice a n c)++d/\Gt r d
def Gt.d{x a n c}:∀{l:List zI} {cs:List Value},Gt l cs->Gt (l++[x]) (cs++Sj x (Sl a n c))
 |[],cs,h=>by
  have h:=h;subst h;exact⟨a,n,c,[],sM,rfl⟩
 |y::r,cs,h=>by
  obtain⟨b,f,c',d,e,h⟩:=h;subst e;exact⟨b,f,c',d++Sj x (Sl a n c),sM,Gt.d h⟩
def Dx(Q:Np)(w:Wl)(v:Vl)(l:List zI):Prop:=∃cs,zB Q w v 4 l.length cs/\Gt l cs
def Dx.on{Q Q' w w' v l}(h:Dx Q w v l)(k:zS Q w w')(t:∀b,Q b->Q' b):Dx Q' w' v l:=by
 obtain⟨cs,h,a⟩:=h;exact⟨cs,uA (h.on k) t,a⟩
def uqI t i:(vO t i).1.e≠97:=by
 unfold vO;split
 .show(110:Int)≠97;omega
 split
 .cases Ks t i with
  |none=>show(0:Int)≠97;omega
  |some p=>show(34:Int)≠97;omega
 split
 .cases Hr t i with
  |none=>show(0:Int)≠97;omega
  |some p=>show(91:Int)≠97;omega
 split
 .rename_i h;intro q;have q:t.T i=97:=q;rw[q]at h;simp[Cx]at h
 show(0:Int)≠97;omega
def YE t i:Dg t.n (xX t i).1/\(xX t i).1.e≠97:=by
 unfold xX;split
 .rename_i h;exact⟨(RX t h).1,uqI t _⟩
 exact⟨⟨(λy a=>by cases a),zK,.inl rfl,(λh=>aB h (by show(0:Int)≠91;omega)),(λh=>aB h (by show(0:Int)≠110;omega))⟩,by show(0:Int)≠97;omega⟩
def Lu{k c}(a:k≠97)(b:c≠97)(d:c≠110):(kk k=c↔k=c):=by
 unfold kk;split
 .omega
 exact Iff.rfl
def BH{k}(a:k≠97):(kk k=97↔k=110):=by
 unfold kk;split
 .omega
 omega
structure RZ where
 v7:Value
 v8:Value
 k:zI
 sa:Option Addr
 sc:Nat
 i:Nat
 l:List zI
 rf:List zI
 th:List zI
 A:Nat->Prop
 B:Nat->Prop
structure RK where
 rb:Nat
 t:Tx
 ta:Option Addr
 tc:Nat
 v6:Value
 D:Nat->Prop
def RK.rv(K:RK)(z:RZ):Rv:=⟨K.ta,K.tc,Bv (kk z.k.e),Iv (z.k.f:Nat),.string (str z.k.nm.length (lf z.k.nm)),Sl z.sa z.k.set.length z.sc,K.v6,z.v7,z.v8⟩
def RK.C(K:RK)(z:RZ):Nat->Prop:=λb=>b=K.rb\/z.A b\/z.B b
def RK.X(K:RK)(z:RZ):Nat->Prop:=λb=>K.C z b\/K.D b
structure RK.S(K:RK)(z:RZ)(W:Wl):Prop where
 sc:Sc K.rb K.t (K.rv z) z.i W
 s:Ints (Out (K.X z) W) .u8 W K.ta K.t.n K.t.T
 set:Ints (Out (K.X z) W) .i64 W z.sa z.k.set.length (lf z.k.set)
 j:Dx z.A W z.v7 z.rf
 m:Dx z.B W z.v8 z.th
 g:Left K.t z.k z.i z.l
 nz:∀x∈z.l,x.e≠0
 a:∀b,z.A b->b<W.heap.size/\b≠K.rb/\¬z.B b/\¬K.D b
 b:∀b,z.B b->b<W.heap.size/\b≠K.rb/\¬K.D b
 d:∀b,K.D b->b<W.heap.size/\b≠K.rb
 r:K.t.n<=K.tc
 w:Dg K.t.n z.k
 e:z.k.e≠97
 C:z.rf.length+z.th.length+z.l.length<=1000000
 tn:K.t.n<=1000000
structure RK.M(K:RK)(z:RZ)(W:Wl)(z':RZ)(W':Wl)(R T:List zI):Prop where
 kp:zA (K.C z) W W'
 a:∀b,z'.A b->z.A b\/W.heap.size<=b
 b:∀b,z'.B b->z.B b\/W.heap.size<=b
 rf:z'.rf=z.rf++R
 th:z'.th=z.th++T
section
variable {K:RK} {z z1 z2 z':RZ} {W W1 W2 W':Wl} {R T R' T':List zI} {W0:Wl} {P:Ew} {β:Int} {k':zI} {sa':Oa} {sc' j':Nat} {l':List zI}
def RK.M.cc(m:K.M z W z1 W1 R T):∀b,K.C z1 b->K.C z b\/W.heap.size<=b
 |_,.inl q=>.inl (.inl q)
 |b,.inr (.inl q)=>(m.a b q).imp (λq=>.inr (.inl q)) id
 |b,.inr (.inr q)=>(m.b b q).imp (λq=>.inr (.inr q)) id
def RK.M.d(m:K.M z W z1 W1 R T):Cu (K.X z) W (K.X z1) W1:=⟨m.kp.h (λ_ q=>.inl q),λb q=>q.elim (λq=>(m.cc b q).imp .inl id) (λq=>.inl (.inr q))⟩
def RK.M.y(m:K.M z W z1 W1 R T)(k:zA (K.C z1) W1 W2):zA (K.C z) W W2:=((⟨m.kp,m.cc⟩:Cu (K.C z) W (K.C z1) W1).c (Cu.d k)).kp
def RK.M.c(m:K.M z W z1 W1 R T)(k:K.M z1 W1 z2 W2 R' T'):K.M z W z2 W2 (R++R') (T++T') :=
 ⟨m.y k.kp,λb q=>(k.a b q).elim (m.a b) (λq=>.inr (zP m.kp.l q)),λb q=>(k.b b q).elim (m.b b) (λq=>.inr (zP m.kp.l q)),by rw[k.rf,m.rf,Ce],by rw[k.th,m.th,Ce]⟩
def RK.S.x(s:K.S z W):∀b,K.X z b->b<W.heap.size
 |_,.inl (.inl q)=>q▸s.sc.e.x.2.2
 |b,.inl (.inr (.inl q))=>(s.a b q).1
 |b,.inl (.inr (.inr q))=>(s.b b q).1
 |b,.inr q=>(s.d b q).1
def RK.S.cons(s:K.S z W)(a:z.k.e≠0):∃b,z.l=z.k::b:=by
 rcases s.g with q|q
 .exact⟨_,q.1⟩
 exact aB (by rw[q.2.1]) a
def RK.S.G(s:K.S z W)(c:KB K.rb W W')(h:Sc K.rb K.t (K.rv { z with k:=k',sa:=sa',sc:=sc' }) j' W')(o:Ints (Out (K.X z) W') .i64 W' sa' k'.set.length (lf k'.set))(p:Left K.t k' j' l')(u:∀x∈l',x.e≠0)(g:Dg K.t.n k'/\k'.e≠97)(v:l'.length<=z.l.length) :
  K.S { z with k:=k',sa:=sa',sc:=sc',i:=j',l:=l' } W'/\K.M z W { z with k:=k',sa:=sa',sc:=sc',i:=j',l:=l' } W' [] []:=by
 have m:K.M z W { z with k:=k',sa:=sa',sc:=sc',i:=j',l:=l' } W' [] []:=⟨c.h (λ_ q=>.inl q),λ_ q=>.inl q,λ_ q=>.inl q,sM,sM⟩;have f:=c.l;refine⟨⟨h,yu s.s m.d,o,s.j.on (λb q=>c.d b (s.a b q).1 (s.a b q).2.1) (λb q=>q),s.m.on (λb q=>c.d b (s.b b q).1 (s.b b q).2.1) (λb q=>q),p,u,λb q=>⟨Ba (s.a b q).1 f,(s.a b q).2⟩,λb q=>⟨Ba (s.b b q).1 f,(s.b b q).2⟩,λb q=>⟨Ba (s.d b q).1 f,(s.d b q).2⟩,s.r,g.1,g.2,?_,s.tn⟩,m⟩;have:=s.C;show z.rf.length+z.th.length+l'.length<=_;omega
def RK.S.u(s:K.S z W){c:IntKind}{a:Oa}{n:Nat}{T:Nat->Int}(h:Ints (zF W W') c W' a n T):Ints (Out (K.X z) W') c W' a n T:=h.g (λb q=>⟨q.2,λx=>by have:=s.x b x;have:=q.1;omega⟩)
def RK.S.kp(s:K.S z W)(k:Kf W W'):K.S z W':=(s.G (jd k) (s.sc.kp k) (yu s.set (Cu.d (k.h (λ_ q=>q.elim)))) s.g s.nz ⟨s.w,s.e⟩ zD).1
abbrev RK.k(K:RK)(W W0:Wl):RK:={ K with D:=λb=>K.D b\/(W.heap.size<=b/\b<W0.heap.size) }
def RK.S.p(s:K.S z W)(k:Kf W W0):(K.k W W0).S z W0:=by
 have s0:=s.kp k;have f:∀{i:IntKind} {a:Oa} {n:Nat} {T:Nat->Int},Ints (Out (K.X z) W) i W a n T->Ints (Out ((K.k W W0).X z) W0) i W0 a n T:=λh=>(h.on (λb β=>k.d b β.1 (λe=>e))).g (λb β=>⟨Ba β.1 k.l,λq=>q.elim (λq=>β.2 (.inl q)) (λq=>q.elim (λq=>β.2 (.inr q)) (λq=>oH β.1))⟩);exact⟨s0.sc,f s.s,f s.set,s0.j,s0.m,s.g,s.nz,λb q=>⟨(s0.a b q).1,(s0.a b q).2.1,(s0.a b q).2.2.1,λx=>x.elim (s0.a b q).2.2.2 (λx=>oH ((s.a b q).1))⟩,λb q=>⟨(s0.b b q).1,(s0.b b q).2.1,λx=>x.elim (s0.b b q).2.2 (λx=>oH ((s.b b q).1))⟩,λb q=>q.elim (s0.d b) (λq=>⟨q.2,λe=>by have e':b=K.rb:=e;have:=s.sc.e.x.2.2;omega⟩),s.r,s.w,s.e,s.C,s.tn⟩
def RK.S.h{V i:Wl}(s:(K.k V i).S z W)(k:zA (λb=>V.heap.size<=b/\b<i.heap.size) W W'):K.S z W':=by
 have f:∀{o:IntKind} {a:Oa} {n:Nat} {T:Nat->Int},Ints (Out ((K.k V i).X z) W) o W a n T->Ints (Out (K.X z) W') o W' a n T:=λh=>(h.on (λb β=>k.d b β.1 (λe=>β.2 (.inr (.inr e))))).g (λb β=>⟨Ba β.1 k.l,λq=>β.2 (q.imp id .inl)⟩);have n:∀{A:Np},(∀b,A b->b<W.heap.size/\¬(K.k V i).D b)->zS A W W':=λh b q=>k.d b (h b q).1 (λe=>(h b q).2 (.inr e));exact⟨⟨s.sc.e.a (k.d _ s.sc.e.x.2.2 (λe=>(s.d _ (.inr e)).2 rfl)),(f s.s).g (λb β=>⟨β.1,λe=>β.2 (.inl (.inl e))⟩),s.sc.le⟩,f s.s,f s.set,s.j.on (n (λb q=>⟨(s.a b q).1,(s.a b q).2.2.2⟩)) (λb q=>q),s.m.on (n (λb q=>⟨(s.b b q).1,(s.b b q).2.2⟩)) (λb q=>q),s.g,s.nz,λb q=>⟨Ba (s.a b q).1 k.l,(s.a b q).2.1,(s.a b q).2.2.1,λx=>(s.a b q).2.2.2 (.inl x)⟩,λb q=>⟨Ba (s.b b q).1 k.l,(s.b b q).2.1,λx=>(s.b b q).2.2 (.inl x)⟩,λb q=>⟨Ba (s.d b (.inl q)).1 k.l,(s.d b (.inl q)).2⟩,s.r,s.w,s.e,s.C,s.tn⟩
def Xn(s:K.S z W)(w:z.k.e≠0)(C:∀d W' v,z.l=z.k::d.l->K.S d W'->K.M z W d W' [] []->P (Rt v) W') :
  Cs 87 #[rp K.rb] W P:=by
 let⟨B,a⟩:=s.cons w;have b:=s.g;have β:=s.nz;rw[a]at b β;have f:=YD b β;refine XD s.sc s.r ⟨λW' k j sa sc v e h y A=>?_,f⟩;have m:=YC b f;have n:=YE K.t z.i;rw[e]at m n;let⟨o,p⟩:=s.G (l':=B) A h (s.u y) m (λx q=>β x (Ta _ q)) n (by rw[a];simp);exact C _ _ v a o p
def RK.S.y(s:K.S z W)(a:z.l≠[])(b:∀r,z.l=z.k::r->¬z.k.e≠β):z.k.e=β:=by
 rcases s.g with q|q
 .exact Decidable.of_not_not (b _ q.1)
 exact aB q.1 a
def qh(s:K.S z W)(o:β≠0)(g:β≠97)(h:β≠110)(i:z.k.e≠β->P (Rt Bf) W)(j:∀b W',z.k.e=β->z.l=z.k::b.l->K.S b W'->K.M z W b W' [] []->P (Rt Bt) W') :
  Cs 142 #[rp K.rb,Bv β] W P:=by
 have n:=ua s;have Y:=ua j;have N:=ua i;have p:W.cell? (Ad K.rb 2)=some (Bv (kk z.k.e)):=s.sc.e.x.1 2;have f:=ua (Lu s.e g h);clear j i s g h;generalize kk z.k.e=x at *;go_enter func142,ntmps142;by_cases d:x=β
 .subst d;have a:=ua (f.o.1 rfl);go_wp2_with fail;refine Xn n.o (by rw[a.o];exact o) λb W' v e s' m=>?_;have e:=ua e;go_wp2;exact Y.o _ _ a e s' m
 have a:=ua (λq=>d (f.o.2 q));have hk':(x != β)=true:=by simpa using d
 go_wp2;exact N.o a.o
def qi{d:Int}(s:K.S z W)(R:z.k.e≠0)(I:kk z.k.e=d)(J:∀j W',z.l=z.k::j.l->K.S j W'->K.M z W j W' [] []->P (Rt (Im z.k z.sa z.sc)) W'):Cs 143 #[rp K.rb,Bv d] W P:=by
 have Q:=ua J;have L:=ua R;have X:=s.sc.e.x.2.2;have U:=ua s.sc.e;let⟨q,p,l⟩:=s.sc.e.x;have F:W.cell? (Ad K.rb 2)=some (Bv (kk z.k.e)):=q 2;have c3:W.cell? (Ad K.rb 3)=some (Iv (z.k.f:Nat)):=q 3;have G:W.cell? (Ad K.rb 4)=some (.string (str z.k.nm.length (lf z.k.nm))):=q 4;have H:W.cell? (Ad K.rb 5)=some (Sl z.sa z.k.set.length z.sc):=q 5;have E:=ua s;let⟨x,w⟩:=nm (kk z.k.e);let⟨i,u⟩:=nm (str z.k.nm.length (lf z.k.nm));let⟨sn,t⟩:=nm z.k.set.length;have N:Hid (Im z.k z.sa z.sc=.agg #[Bv x,Iv (z.k.f:Nat),.string i,Sl z.sa sn z.sc]):=(by show _=_;rw[Im,w,u,t]);rw[w]at F I;subst I;rw[u]at G;rw[t]at H;clear J s q w u t;go_enter func143,ntmps143;go_upto_region 2 with fail;have o:=ua ((zA.a (λ_=>False) W (Oc Hu 76)).c (Gh _ (Oc #[Bv x,Iv (z.k.f:Nat),.string i,Sl z.sa sn z.sc] 76)));have r:=ua ((um W Hu 76).al (Oc #[Bv x,Iv (z.k.f:Nat),.string i,Sl z.sa sn z.sc] 76));have B:=ua (uW (W.alloc (Oc Hu 76)) #[Bv x,Iv (z.k.f:Nat),.string i,Sl z.sa sn z.sc] 76 (W.heap.size+1) sM);generalize (W.alloc (Oc Hu 76)).alloc (Oc #[Bv x,Iv (z.k.f:Nat),.string i,Sl z.sa sn z.sc] 76)=n at *;clear F c3 G H p l;let⟨q,p,l⟩:=B.o.x;have S0:=ua (E.o.p o.o);have O:Hid (∀W1,zA (K.C z) n W1->zA (K.C z) W W1):=λW1 k=>(o.o.h (λ_ q=>q.elim)).c k;go_wp2_with fail;refine Xn (K:=K.k W n) S0.o L.o λj W' v e s' m=>?_;have e:=ua e;have st:∀b,W.heap.size<=b->b<n.heap.size->W'.heap[b]?=n.heap[b]?:=λb V T=>m.kp.d b T (λq=>oH (E.x b (.inl q)));let⟨q2,p2,l2⟩:=(B.a (st _ oM l)).x;let⟨q3,Z,Y⟩:=(r.a (st _ oM r.x.2.2)).x;have D:Hid (∀y A v2 v3,K.S j (Xp W' W.heap.size y A v2 v3)/\K.M z W j (Xp W' W.heap.size y A v2 v3) [] []):=λy A v2 v3=>(by
  have g:W.heap.size<=W.heap.size/\W.heap.size<n.heap.size:=⟨zD,r.x.2.2⟩;exact⟨s'.h ((((Dh g).c (Dh g)).c (Dh g)).c (Dh g)),⟨xT (xT (xT (xT (O.o _ m.kp) g.1) g.1) g.1) g.1,λb x=>(m.a b x).imp id (λx=>zP o.o.l x),λb x=>(m.b b x).imp id (λx=>zP o.l x),m.rf,m.th⟩⟩)
 clear q p s' m st;go_wp2;refine zL (v:=.agg #[Bv x,Iv (z.k.f:Nat),.string i,Sl z.sa sn z.sc]) (by simp[results,f143,go_sem, *]) rfl ?_;rw[<-N.o];exact Q.o _ _ e.o (D.o _ _ _ _).1 (D.o _ _ _ _).2
end
end
section
open M (OpD ug Gr)
def RK.Rd(K:RK)(z:RZ)(W:Wl)(d:Nat)(R:Sum Nat (PE×List zI))(P:Ew):Prop :=
 ∀x c ty u W',R=.inr (x,c.l)->K.S c W'->K.M z W c W' x.b x.a->Gc (K.X c) W' x (.iface ty u)->c.l.length+d<=z.l.length->P (Rt (.iface ty u)) W'
def Ia(a:FuncId)(m c d f:Nat):Prop:=∀(K:RK) (z:RZ) (W:Wl) (P:Ew),K.S z W->8*z.l.length+c<f->(∀p,rd K.t.n f m .emp z.l≠.inl p)->K.Rd z W d (rd K.t.n f m .emp z.l) P->Cs a #[rp K.rb] W P
section
variable {K:RK} {z z1 z2:RZ} {W W1 W2:Wl} {R T R' T':List zI} {n β:Nat} {l r:List zI} {x acc:PE} {y:zI} {p:Nat}
def RK.M.e(K:RK)(z:RZ)(W:Wl):K.M z W z W [] []:=⟨Cc,λ_ q=>.inl q,λ_ q=>.inl q,sM,sM⟩
def RK.M.f(m:K.M z W z1 W1 R T)(k:K.M z1 W1 z2 W2 [] []):K.M z W z2 W2 R T:=by
 have:=m.c k;rwa [Dl,Dl]at this
def RK.S.H(s:K.S z W):kAt z.l 0=z.k.e:=by
 rcases s.g with q|q
 .rw[q.1];rfl
 rw[q.1,q.2.1];rfl
def RK.S.q(s:K.S z W)(h:z.l=y::r):y=z.k:=by
 rcases s.g with q|q
 .rw[q.1]at h;injection h with h;exact h.symm
 rw[q.1]at h;cases h
def RK.S.f(s:K.S z W):So (kk z.k.e)=true↔beg (Go.Proofs.YtmlblamikgkdcaaGreat.kAt z.l 0):=by
 rw[s.H];have:=s.e;unfold So Go.Proofs.YtmlblamikgkdcaaGreat.beg kk;rw[decide_eq_true_iff];split<;>omega
def lenM(t:Tx)(rb:Nat)(w:World):Nat:=match w.cell? (Ad rb 2) with|some (.int _ x)=>if x=0 then 0 else (Lt t (Oq rb w)).length+1|_=>0
def RK.S.v(s:K.S z W):lenM K.t K.rb W=z.l.length:=by
 unfold Go.Proofs.YtmlblamikgkdcaaGreat.lenM;rw[s.sc.e.x.1 2,s.sc.f];show(if kk z.k.e=0 then 0 else (Lt K.t z.i).length+1)=_;have a:(kk z.k.e=0↔z.k.e=0):=Lu s.e oM oM;rcases s.g with q|q
 .rw[Zn (λz=>q.2.1 (a.1 z)),q.1];rfl
 rw[Zp (a.2 (by rw[q.2.1])),q.1];rfl
def uvP(h:rd n β 0 .emp l=.inr (x,y::r)):rd n (β+1) 1 .emp l=if y.e=42 then .inr (.star x y,r) else if y.e=63 then .inr (.opt x y,r) else .inr (x,y::r):=by rw[rd,h]
def uqB(h:rd n β 0 .emp l=.inr (x,[])):rd n (β+1) 1 .emp l=.inr (x,[]):=by rw[rd,h]
def ujd(A:Ia 240 0 1 1 β):Ia 225 1 2 1 (β+1):=by
 intro K z W P s H F G;have B:=ua (λC=>A K z W C s oM λp q=>F p (by rw[rd,q]));have n:=ua G;go_enter func225,ntmps225;go_wp2_with fail;refine B _ λx b ty u W1 e i o v D=>?_;have E:=ua e;have m:Hid (∀r,b.l=b.k::r->_):=λr q=>uvP (e.trans (by rw[q]));go_wp2_with fail;refine qh i oM oM oM (λa=>?_) (λw W2 a c t h=>?_)
 .have a:=ua a;go_wp2_with fail;refine qh i oM oM oM (λg=>?_) (λw W2 g c t h=>?_)
  .have g:=ua g;go_wp2;refine n x b ty u W1 ?_ i o v D;cases q:b.l with
   |nil=>exact uqB (q▸E.o)
   |cons y r =>
    obtain rfl:=i.q q;rw[m.o r q,Zn a.o,Zn g.o]
  have j:=ua (n (.opt x b.k) w 241 (.agg #[.iface ty u,Qk]) W2 (by rw[m.o _ c,Zn a.o,Zp g]) t (o.f h) ⟨_,rfl,v.mv h.d⟩ (by have:=Bj List.length c;simp at this;omega));go_wp2;exact j
 have j:=ua (n (.star x b.k) w 243 (.agg #[.iface ty u]) W2 (by rw[m.o _ c,Zp a]) t (o.f h) ⟨_,rfl,v.mv h.d⟩ (by have:=Bj List.length c;simp at this;omega));go_wp2;exact j
def us6 n:∀β,rd n β 1 .emp []=.inl n
 |0=>by rw[rd];rfl
 |1=>by rw[rd,rd];rfl
 |β+2=>by rw[rd,rd.eq_def]
def XZ:rd n (β+1) 2 .emp (y::r)=if y.e=33 then (match rd n β 2 .emp r with|.inl p=>.inl p|.inr (e,r')=>.inr (.not y e,r')) else if y.e=38 then (match rd n β 2 .emp r with|.inl p=>.inl p|.inr (e,r')=>.inr (.amp y e,r')) else rd n β 1 .emp (y::r):=by
 rw[rd.eq_def];rfl
def uje(Q:Ia 225 1 2 1 β)(R:Ia 214 2 3 1 β):Ia 214 2 3 1 (β+1):=by
 intro K z W P s S T U;have B:=ua s;have C:=ua S;have O:=ua Q;have N:=ua R;have E:=ua U;have D:=ua T;have A:Hid (∀r,z.l=z.k::r->rd K.t.n (β+1) 2 .emp z.l=_):=λr q=>(Bj _ q).trans XZ;go_enter func214,ntmps214;go_wp2_with fail;refine qh B oM oM oM (λb=>?_) (λJ W2 b j I G=>?_)
 rotate_left
 .have b:=ua b;have g:=ua j;have F:=Bj List.length j;simp at F;go_wp2_with fail;refine N K J W2 _ I (oH C) (λp q=>D p (by rw[A.o _ g.o,Zp b.o,q])) λx w ty u i e o m v H=>?_;have h:=ua (E (.not z.k x) w 244 (.agg #[.iface ty u]) i (by rw[A.o _ g.o,Zp b.o,e]) o (G.c m) ⟨_,rfl,v⟩ oM);go_wp2;exact h
 have b:=ua b;go_wp2_with fail;refine qh B oM oM oM (λd=>?_) (λJ W2 d j I G=>?_)
 rotate_left
 .have d:=ua d;have g:=ua j;have F:=Bj List.length j;simp at F;go_wp2_with fail;refine N K J W2 _ I (oH C) (λp q=>D p (by rw[A.o _ g.o,Zn b.o,Zp d.o,q])) λx w ty u i e o m v H=>?_;have h:=ua (E (.amp z.k x) w 244 (.agg #[.iface 244 (.agg #[.iface ty u])]) i (by rw[A.o _ g.o,Zn b.o,Zp d.o,e]) o (G.c m) ⟨_,rfl,v⟩ oM);go_wp2;exact h
 have L:Hid (rd K.t.n (β+1) 2 .emp z.l=rd K.t.n β 1 .emp z.l):=(by
  show _=_;cases q:z.l with
  |nil=>rw[us6,rd.eq_def]
  |cons y r =>
   obtain rfl:=B.o.q q;rw[XZ,Zn b.o,Zn d])
 go_wp2_with fail;refine O K z W _ B (oH C) (λp q=>D p (L.trans q)) λx w ty u i e o m v H=>?_;have h:=ua (E x w ty u i (L.trans e) o m v H);go_wp2;exact h
def Lq:rd n (β+1) 4 .emp l=if beg (kAt l 0) then (match rd n β 2 .emp l with|.inl p=>.inl p|.inr (e,r)=>rd n β 3 e r) else .inr (.emp,l):=by rw[rd];rfl
def Lr:rd n (β+1) 3 acc l=if beg (kAt l 0) then (match rd n β 2 .emp l with|.inl p=>.inl p|.inr (e,r)=>rd n β 3 (.seq acc e) r) else .inr (acc,l):=by rw[rd];rfl
def Us(K:RK)(z:RZ)(W:Wl)(F d m c:Nat)(R:Sum Nat (PE×List zI))(v:Vl)(wr:Wl):Prop :=
 ∃β g e ty u,v=.iface ty u/\β+1<=F/\R=rd K.t.n (β+1) m g e.l/\8*e.l.length+c<β+1/\K.S e wr/\K.M z W e wr g.b g.a/\Gc (K.X e) wr g (.iface ty u)/\e.l.length+d<=z.l.length
def uqD{F}(w:∀g,g<=F->Ia 214 2 3 1 g):Ia 193 4 4 0 (F+1):=by
 intro K z W P s J O Q;have E:=ua s;have A:=ua J;have r:=ua w;have D:=ua Q;have C:=ua O;have H:W.cell? (Ad K.rb 2)=some (Bv (kk z.k.e)):=s.sc.e.x.1 2;have b:=ua s.f;clear s J w Q O;generalize kk z.k.e=c at *;go_enter func193,ntmps193;go_wp2_with fail;refine(YT c W).mono ?_;rintro e Y ⟨rfl,o⟩;obtain rfl:=o.symm;cases a:So c with
 |false =>
  have m:=ua (Lq.trans (Zn (λq=>by have:=b.o.2 q;rw[a]at this;cases this)):rd K.t.n (F+1) 4 .emp z.l=_);clear a;go_wp2;exact D.o .emp z 309 (.agg #[]) _ m.o E.o (RK.M.e _ _ _) rfl zD
 |true =>
  have h:=ua (Lq.trans (Zp (b.o.1 a)):rd K.t.n (F+1) 4 .emp z.l=_);clear a b;go_wp2_with fail;refine r.o F zD K z _ _ E.o (oH A.o) (λp q=>C p (by rw[h.o,q])) λx z1 ty u W1 e s1 m1 t1 n1=>?_;have B:Hid (Us K z W F 1 3 4 (rd K.t.n (F+1) 4 .emp z.l) (.iface ty u) W1):=(by
   have h1:=A.o;obtain⟨β,rfl⟩:∃β,F=β+1:=⟨F-1,oM⟩;exact⟨β,x,z1,ty,u,rfl,zD,by rw[h.o,e],oM,s1,m1,t1,n1⟩)
  clear e H;go_wp2;go_loopw [3] (Us K z W F 1 3 4 (rd K.t.n (F+1) 4 .emp z.l)) (λ_ wr=>lenM K.t K.rb wr)
  .exact B.o
  obtain⟨β,G,j,T,u2,rfl,hF,I,ab,i,L,S,n2⟩:=hrel;have y:=ua I;have U:=ua i.v;have H:wr.cell? (Ad K.rb 2)=some (Bv (kk j.k.e)):=i.sc.e.x.1 2;have b:=ua i.f;clear I B;generalize kk j.k.e=c at *;go_wp2_with fail;refine(YT _ wr).mono ?_;rintro e Y ⟨rfl,o⟩;obtain rfl:=o.symm;cases a:So _ with
  |false =>
   have m:=ua (y.o.trans (Lr.trans (Zn (λq=>by have:=b.o.2 q;rw[a]at this;cases this))));clear a;go_wp2;exact D.o G j T u2 _ m.o i L S oM
  |true =>
   have h:=ua (y.o.trans (Lr.trans (Zp (b.o.1 a))));clear a b;go_wp2_with fail;refine r.o β oM K j _ _ i oM (λp q=>C p (by rw[h.o,q])) λx z3 aa u3 Z e R N t3 n3=>?_;have X:Hid (Us K z W F 1 3 4 (rd K.t.n (F+1) 4 .emp z.l) (.iface 240 (.agg #[.iface T u2,.iface aa u3])) Z):=(by
    obtain⟨β,rfl⟩:∃g,β=g+1:=⟨β-1,oM⟩;exact⟨β,.seq G x,z3,_,_,rfl,oM,by rw[h.o,e],oM,R,L.c N,⟨_,_,rfl,S.mv N.d,t3⟩,oM⟩)
   have V:=ua R.v;clear e;go_wp2;go_roundw
   .exact X.o
   rw[U.o,V.o];omega
def YA:rd n (β+1) 5 .emp l=(match rd n β 4 .emp l with|.inl p=>.inl p|.inr (e,r)=>rd n β 6 e r):=by rw[rd];rfl
def Ls:rd n (β+1) 6 acc (y::r)=if y.e=47 then (match rd n β 4 .emp r with|.inl p=>.inl p|.inr (e,r')=>rd n β 6 (.alt acc y e) r') else .inr (acc,y::r):=by rw[rd.eq_def];rfl
def uqF{F}(J:∀g,g<=F->Ia 193 4 4 0 g):Ia 144 5 6 0 (F+1):=by
 intro K z W P s hf E Y;have j:=ua J;have R:=ua Y;have Q:=ua E;go_enter func144,ntmps144;go_wp2_with fail;refine j F zD K z _ _ s oM (λp q=>E p (by rw[YA,q])) λx z1 ty u W1 e Z V t1 X=>?_;have L:Hid (Us K z W F 0 6 5 (rd K.t.n (F+1) 5 .emp z.l) (.iface ty u) W1):=(by
  obtain⟨β,rfl⟩:∃β,F=β+1:=⟨F-1,oM⟩;exact⟨β,x,z1,ty,u,rfl,zD,by rw[YA,e],oM,Z,V,t1,X⟩)
 go_wp2;go_loopw [3] (Us K z W F 0 6 5 (rd K.t.n (F+1) 5 .emp z.l)) (λ_ wr=>lenM K.t K.rb wr)
 .exact L
 obtain⟨β,w,i,I,u2,rfl,hF,T,ab,h,B,H,n2⟩:=hrel;have m:=ua T;have N:=ua h.v;go_wp2_with fail;refine qh h oM oM oM (λb=>?_) (λz3 W3 b A s3 C=>?_)
 .have b:=ua b;go_wp2;refine R w i I u2 _ (m.trans ?_) h B H oM;cases q:i.l with
  |nil=>rw[rd.eq_def]
  |cons y r =>
   obtain rfl:=h.q q;rw[Ls,Zn b.o]
 have o:Hid (rd K.t.n (F+1) 5 .emp z.l=_):=m.trans ((Bj _ A).trans (Ls.trans (Zp b)));have U:=Bj List.length A;simp at U;go_wp2_with fail;refine j β oM K z3 _ _ s3 oM (λp q=>Q p (by rw[o.o,q])) λx z4 aa u4 W4 e G D t4 n4=>?_;have S:Hid (Us K z W F 0 6 5 (rd K.t.n (F+1) 5 .emp z.l) (.iface 241 (.agg #[.iface I u2,.iface aa u4])) W4):=(by
  obtain⟨β,rfl⟩:∃g,β=g+1:=⟨β-1,oM⟩;exact⟨β,.alt w i.k x,z4,_,_,rfl,oM,by rw[o.o,e],oM,G,(B.f C).c D,⟨_,_,rfl,(H.mv C.d).mv D.d,t4⟩,oM⟩)
 have O:=ua G.v;go_wp2;go_roundw
 .exact S
 rw[N.o,O.o];omega
end
end
section
open M (OpD ug Gr)
def Xm{ops:Array Oper}{o:Oper}{a:Act}{w W':Wl}{K:Act->World->Prop}{c:Exit->Act->World->Prop}{E:Prop}{t b:TypeId}{v y r:Vl}(d:o.guard=none)(s x:Operand)(e:o.op=.call { callee:=.builtin .append,args:=#[s,x],argTypes:=#[t,b] })(g:a.eval s=v)(i:a.eval x=y)
  (f:(Builtin.append_ #[t,b] o.type #[v,y]).run prog w=.ok r W') (h:K (a.put o.dst r) W'):if Region.wanted o (yielded ops a.tmps)=true then Oper.wp prog o a w K c else E:=by
 rw[Zp (by simp[Region.wanted,d])];exact yO e g i f (h)
def uvN:(prog.info? 76).map (λi=>(i.zero,i.size,i.bytes))=some (some (.agg #[Bv 0,Iv 0,.string ⟨#[]⟩,nS]),4,56):=rR
def uvO:vJ 78 76 4 56:=⟨underlying78,⟨_,uvN,rfl⟩,oM⟩
section
variable {K:RK} {z z':RZ} {W W':Wl} {x:zI} {v:Vl} {A:Np} {l:List zI} {sa:Oa} {sn sc:Nat} {n f:Nat} {r:List zI} {y:zI} {p:Nat}
abbrev BG(x:zI)(sa:Oa)(sn sc:Nat):Obj:=.cells #[Bv (kk x.e),Iv (x.f:Nat),.string (str x.nm.length (lf x.nm)),Sl sa sn sc] 76
def Uq{t e:TypeId}{m s n:Nat}{cs news:List Value}{o:Obj}(w:vJ t e m s)(h:zB A W v m n cs)(u:∀b,A b->b<W.heap.size)(z:Src prog m t (Sl (Sm W.heap.size 0) 1 1) 1 news (W.alloc o))(C:n<=1000000)(B:0<m) :
  ∃a c W',(Builtin.append_ #[t,t] t #[v,Sl (Sm W.heap.size 0) 1 1]).run prog (W.alloc o)=.ok (Sl a (n+1) c) W'/\zB (λb=>(A b\/W.heap.size<=b)/\b<W'.heap.size) W' (Sl a (n+1) c) m (n+1) (cs++news)/\zA A W W':=by
 have j:Kf W (W.alloc o):=zY;let⟨E,w',y,p,k,D⟩:=yN t w (h.on (λb i=>j.d b (u b i) (λe=>e))) z oM;obtain⟨r,c',rfl⟩:=uj p;refine⟨r,c',w',y,?_,⟨k.os,k.g,k.f,zP j.l k.l,λb i x=>(k.d b (Ba i j.l) x).trans (j.d b i (λe=>e))⟩⟩;exact p.a (Pi oM B) (λb q i=>⟨q.imp id (zP j.l),i⟩)
def Dx.app(h:Dx A W v l)(g:∀b,A b->b<W.heap.size)(i:l.length<=1000000) :
  ∃a c W',(Builtin.append_ #[78,78] 78 #[v,Sl (Sm W.heap.size 0) 1 1]).run prog (W.alloc (BG x sa sn sc))=.ok (Sl a (l.length+1) c) W'/\Dx (λb=>(A b\/W.heap.size<=b)/\b<W'.heap.size) W' (Sl a (l.length+1) c) (l++[x])/\zA A W W':=by
 obtain⟨cs,e,f⟩:=h;let⟨a,c,W',m,j,k⟩:=Uq (o:=BG x sa sn sc) (news:=Sj x (Sl sa sn sc)) uvO e g (qg underlying78 rfl rfl rfl) i oM;exact⟨a,c,W',m,⟨_,by rw[zJ,Dd];exact j,Gt.d f⟩,k⟩
def RK.S.E(s:K.S z W)(k:zA z.A W W')(h:Dx (λb=>(z.A b\/W.heap.size<=b)/\b<W'.heap.size) W' v (z.rf++[x]))(f:z.rf.length+z.th.length+z.l.length+1<=1000000) :
  ∃n,n.l=z.l/\K.S n (W'.setCell (Ad K.rb 7) v)/\K.M z W n (W'.setCell (Ad K.rb 7) v) [x] []/\zG W' K.rb (Ut K.t (K.rv z) K.ta z.i):=by
 have C:=k.l;have B:¬z.A K.rb:=λq=>(s.a _ q).2.1 rfl;have o:=s.sc.e.a (k.d _ s.sc.e.x.2.2 B);have st:∀b,b≠K.rb->(W'.setCell (Ad K.rb 7) v).heap[b]?=W'.heap[b]?:=λb f=>Bn f;refine⟨{ z with v7:=v,rf:=z.rf++[x],A:=λb=>(z.A b\/W.heap.size<=b)/\b<W'.heap.size },rfl,?_⟩;have m:K.M z W { z with v7:=v,rf:=z.rf++[x],A:=λb=>(z.A b\/W.heap.size<=b)/\b<W'.heap.size } (W'.setCell (Ad K.rb 7) v) [x] [] :=
  ⟨(k.h (λ_ q=>.inr (.inl q))).c (Dh (.inl rfl)),λ_ q=>q.1,λ_ q=>.inl q,sM,sM⟩
 refine⟨⟨⟨o.set 7 v,(yu s.s m.d).g (λb f=>⟨f.1,λe=>f.2 (.inl (.inl e))⟩),s.sc.le⟩,yu s.s m.d,yu s.set m.d,h.on (λb q=>st b (λe=>q.1.elim (λq=>(s.a b q).2.1 e) (λq=>oH s.sc.e.x.2.2))) (λ_ q=>q),s.m.on (λb q=>(st b (s.b b q).2.1).trans (k.d b (s.b b q).1 (λa=>(s.a b a).2.2.1 q))) (λ_ q=>q),s.g,s.nz,?_,?_,λb q=>⟨by rw[uh];have:=(s.d b q).1;omega,(s.d b q).2⟩,s.r,s.w,s.e,?_,s.tn⟩,m,o⟩
 .rintro b q;rw[uh];have u:=s.d b;have j:=s.b b;have p:=s.a b;have y:=s.sc.e.x.2.2;exact q.1.elim (λa=>⟨q.2,(p a).2⟩) (λa=>⟨q.2,oM,λx=>by have:=(j x).1;omega,λx=>by have:=(u x).1;omega⟩)
 .rintro b q;rw[uh];have u:=s.d b;have j:=s.b b;have p:=s.a b;have y:=s.sc.e.x.2.2;exact⟨by have:=(j q).1;omega,(j q).2⟩
 simp;omega
def RK.S.F(s:K.S z W)(k:zA z.B W W')(h:Dx (λb=>(z.B b\/W.heap.size<=b)/\b<W'.heap.size) W' v (z.th++[x]))(n:z.rf.length+z.th.length+z.l.length+1<=1000000) :
  ∃o,o.l=z.l/\K.S o (W'.setCell (Ad K.rb 8) v)/\K.M z W o (W'.setCell (Ad K.rb 8) v) [] [x]/\zG W' K.rb (Ut K.t (K.rv z) K.ta z.i):=by
 have D:=k.l;have C:¬z.B K.rb:=λq=>(s.b _ q).2.1 rfl;have p:=s.sc.e.a (k.d _ s.sc.e.x.2.2 C);have st:∀b,b≠K.rb->(W'.setCell (Ad K.rb 8) v).heap[b]?=W'.heap[b]?:=λb n=>Bn n;refine⟨{ z with v8:=v,th:=z.th++[x],B:=λb=>(z.B b\/W.heap.size<=b)/\b<W'.heap.size },rfl,?_⟩;have m:K.M z W { z with v8:=v,th:=z.th++[x],B:=λb=>(z.B b\/W.heap.size<=b)/\b<W'.heap.size } (W'.setCell (Ad K.rb 8) v) [] [x] :=
  ⟨(k.h (λ_ q=>.inr (.inr q))).c (Dh (.inl rfl)),λ_ q=>.inl q,λ_ q=>q.1,sM,sM⟩
 refine⟨⟨⟨p.set 8 v,(yu s.s m.d).g (λb n=>⟨n.1,λe=>n.2 (.inl (.inl e))⟩),s.sc.le⟩,yu s.s m.d,yu s.set m.d,s.j.on (λb q=>(st b (s.a b q).2.1).trans (k.d b (s.a b q).1 (λc=>(s.a b q).2.2.1 c))) (λ_ q=>q),h.on (λb q=>st b (λe=>q.1.elim (λq=>(s.b b q).2.1 e) (λq=>oH s.sc.e.x.2.2))) (λ_ q=>q),s.g,s.nz,?_,?_,λb q=>⟨by rw[uh];have:=(s.d b q).1;omega,(s.d b q).2⟩,s.r,s.w,s.e,?_,s.tn⟩,m,p⟩
 .rintro b q;rw[uh];have y:=s.d b;have u:=s.b b;have f:=s.a b;have A:=s.sc.e.x.2.2;exact⟨by have:=(f q).1;omega,(f q).2.1,λx=>x.1.elim (f q).2.2.1 (λx=>oH ((f q).1)),(f q).2.2.2⟩
 .rintro b q;rw[uh];have y:=s.d b;have u:=s.b b;have f:=s.a b;have A:=s.sc.e.x.2.2;exact q.1.elim (λa=>⟨q.2,(u a).2⟩) (λa=>⟨q.2,oM,λx=>by have:=(y x).1;omega⟩)
 simp;omega
def RK.M.of(k:Kf W W'):K.M z W z W' [] []:=⟨k.h (λ_ q=>q.elim),λ_ q=>.inl q,λ_ q=>.inl q,sM,sM⟩
def Ur:rd n (f+1) 0 .emp (y::r)=if y.e=110 then .inr (.ref y,r) else if y.e=34 then .inr (.str y,r) else if y.e=91 then .inr (.cls y,r) else if y.e=46 then .inr (.dot y,r) else if y.e=94 then (match r with|[]=>.inl n|y'::r'=>if y'.e=110 then .inr (.thr y y',r') else .inl y'.f)
  else if y.e=40 then (match rd n f 5 .emp r with|.inl p=>.inl p|.inr (e,r')=>match r' with|[]=>.inl n|y'::r''=>if y'.e=41 then .inr (.grp y e y',r'') else .inl y'.f) else .inl y.f:=by rw[rd.eq_def];rfl
def uht{F}(H5:Ia 144 5 6 0 F):Ia 240 0 1 1 (F+1):=by
 intro K z W P s hf ne nx;have HF:=ua hf;have G5:=ua H5;have aq:=s.C;have NX:=ua nx;have U:=ua ne;have Q:=ua s.e;have SS:=ua s;let⟨q,p,l⟩:=s.sc.e.x;have c2:W.cell? (Ad K.rb 2)=some (Bv (kk z.k.e)):=q 2;have c3:W.cell? (Ad K.rb 3)=some (Iv (z.k.f:Nat)):=q 3;have c4:W.cell? (Ad K.rb 4)=some (.string (str z.k.nm.length (lf z.k.nm))):=q 4;have c5:W.cell? (Ad K.rb 5)=some (Sl z.sa z.k.set.length z.sc):=q 5;let⟨x,hx⟩:=nm (kk z.k.e);let⟨sz,ai⟩:=nm (str z.k.nm.length (lf z.k.nm));let⟨sn,ag⟩:=nm z.k.set.length;rw[hx]at c2;rw[ai]at c4;rw[ag]at c5;have S:=ua hx;have ad:=ua ai;have an:=ua ag;generalize hW:W.alloc (Oc #[Bv x,Iv (z.k.f:Nat),.string sz,Sl z.sa sn z.sc] 76)=W0;have k0:Kf W W0:=hW▸zY;have S0:=ua (s.kp k0);have M0:Hid (K.M z W z W0 [] []):=.of k0;have B0:Hid (zG W0 W.heap.size #[Bv x,Iv (z.k.f:Nat),.string sz,Sl z.sa sn z.sc]):=hW▸Eb W;have NI:Hid (∀{z' W' R T},K.M z W0 z' W' R T->¬K.C z' W.heap.size):=λm q=>(m.cc _ q).elim (λq=>oH (SS.o.x _ (.inl q))) (λq=>oH B0.o.x.2.2);have BX:Hid (∀{z' W' R T},K.M z W0 z' W' R T->zG W' W.heap.size #[Bv x,Iv (z.k.f:Nat),.string sz,Sl z.sa sn z.sc]):=λm=>B0.o.a (m.kp.d _ B0.o.x.2.2 (NI.o (.e _ _ _)));clear s nx ne hf H5 q hx ai ag k0;let⟨q0,p0,l0⟩:=B0.o.x;go_enter func240,ntmps240;go_upto_region 3 with fail;clear q0 p0 l0;clear c2 c3 c4 c5 p l hW;rcases(show x=97\/x=94\/x=34\/x=91\/x=46\/(x≠97/\x≠94/\x≠34/\x≠91/\x≠46) by omega) with rfl|rfl|rfl|rfl|rfl|⟨n1,n2,n3,n4,n5⟩
 .have HZ:=ua ((BH Q.o).1 S.o);have E:Hid (∀r,z.l=z.k::r->rd K.t.n (F+1) 0 .emp z.l=.inr (.ref z.k,r)):=λr q=>(by rw[q,Ur,Zp HZ.o]);go_wp2_with fail;refine Xn S0.o (by rw[HZ.o];omega) λg W1 v A B o=>?_;have G:=Bj List.length A;have I:=Bj List.length o.rf;have J:=Bj List.length o.th;simp at G I J;have N:=B.kp (Ik W1);let⟨a,c,W2,hr,ab,D⟩:=N.j.app (x:=z.k) (sa:=z.sa) (sn:=sn) (sc:=z.sc) (λb q=>(N.a b q).1) oM;let⟨Y,l2,H,L,bx⟩:=N.E D ab oM;have HR:=ua hr;rw[BG,S.o,ad.o]at HR;let⟨q1,p1,l1⟩:=B.sc.e.x;let⟨q3,p3,l3⟩:=bx.x;have B1:=BX.o o;let⟨q2,p2,al⟩:=B1.x;let⟨q4,p4,l4⟩:=(B1.a (w':=W2) ((D.d _ al (λq=>NI.o o (.inr (.inl q)))).trans ((zA.i (λ_=>False) W1).d _ al (λe=>e)))).x;have aa:=ua (NX.o (.ref z.k) Y 236 (.agg #[.string sz]) _ (by rw[l2];exact E.o _ A) H (((M0.o.c o).c (.of (Ik W1))).c L) (by rw[<-ad.o];rfl) (by rw[l2];omega));clear A B o N hr ab D H L l2 G I J bx B1;generalize hn:g.rf.length+1=nn at *;clear hn;go_wp2_with fail;go_region_law (refine Xm rfl (.tmp 20) (.tmp 22) rfl (by simp[Act.eval,Act.put,RK.rv]) (by simp[Act.eval,Act.put]) HR.o ?_);all_goals (
   go_wp2;exact aa.o)
 .have HZ:=ua ((Lu Q.o (c:=94) oM oM).1 S.o);have E:Hid (∀r,z.l=z.k::r->rd K.t.n (F+1) 0 .emp z.l=(match r with|[]=>.inl K.t.n|y'::r'=>if y'.e=110 then .inr (.thr z.k y',r') else .inl y'.f)):=λr q=>(by rw[q,Ur,HZ.o];rfl);go_wp2_with fail;refine Xn S0.o (by rw[HZ.o];omega) λg W1 v A B o=>?_;have O:=ua A;have G:=Bj List.length A;have I:=Bj List.length o.rf;have J:=Bj List.length o.th;simp at G I J;have HL:=ua (show g.rf.length=z.rf.length/\g.th.length=z.th.length/\z.l.length=g.l.length+1 from ⟨I,J,G⟩);clear A G I J;have K2:Hid (g.k.e=110):=B.y (λq=>U K.t.n (by rw[E.o _ O.o,q])) (λr q h=>U g.k.f (by rw[E.o _ O.o,q];exact Zn h));go_wp2_with fail;refine qi B (by rw[K2.o];omega) ((BH B.e).2 K2.o) λY W2 e2 H L=>?_;have D:=K2.o;have G:=Bj List.length e2;have I:=Bj List.length L.rf;have J:=Bj List.length L.th;simp at G I J;have Z:=ua (((E.o _ O.o).trans (by rw[e2])).trans (Zp D));have HN:Hid (kk g.k.e=97):=(BH B.e).2 D;let⟨sy,ah⟩:=nm (str g.k.nm.length (lf g.k.nm));have aj:=ua ah;let⟨sm,af⟩:=nm g.k.set.length;have ap:=ua af;unfold Im;rw[HN.o,ah,af];generalize ae:W2.alloc (Oc #[Bv 97,Iv (g.k.f:Nat),.string sy,Sl g.sa sm g.sc] 76)=V;have k3:Kf W2 V:=ae▸zY;have B3:zG V W2.heap.size #[Bv 97,Iv (g.k.f:Nat),.string sy,Sl g.sa sm g.sc]:=ae▸Eb W2;have s3:=H.kp k3;have N:=s3.kp (Ik V);have hL:=HL.o;let⟨a,c,W4,hr,ab,k4⟩:=N.m.app (x:=g.k) (sa:=g.sa) (sn:=sm) (sc:=g.sc) (λb q=>(N.b b q).1) oM;let⟨z4,l4,s4,m4,bx⟩:=N.F k4 ab oM;have HR:=ua hr;rw[BG,HN.o,aj.o]at HR;let⟨q1,p1,l1⟩:=s3.sc.e.x;let⟨q3,p3,l3⟩:=bx.x;let⟨q2,p2,l2⟩:=B3.x;let⟨q5,p5,l5⟩:=(B3.a (w':=W4) ((k4.d _ l2 (λq=>oH ((H.b _ q).1))).trans ((zA.i (λ_=>False) V).d _ l2 (λe=>e)))).x;have aa:=ua (NX.o (.thr z.k g.k) z4 238 (.agg #[.string sy]) _ (by rw[l4];exact Z.o) s4 ((((M0.o.c o).c L).c (.of (k3.c (Ik V)))).c m4) (by rw[<-aj.o];rfl) (by rw[l4];omega));clear G I J e2 D H L B o k3 B3 s3 N hr ab k4 l4 s4 m4 bx ah af hL;generalize Y.th.length+1=nn at *;go_wp2_with fail;clear ae;go_region_law (refine Xm rfl (.tmp 40) (.tmp 42) rfl (by simp[Act.eval,Act.put,RK.rv]) (by simp[Act.eval,Act.put]) HR.o ?_);all_goals (
   go_wp2;exact aa.o)
 case' inr.inr.inl=>have HE:Hid (∃e,e=PE.str z.k/\z.k.e≠0/\∀r,z.l=z.k::r->rd K.t.n (F+1) 0 .emp z.l=.inr (e,r)):=(by have h:=(Lu Q.o (c:=34) oM oM).1 S.o;exact⟨_,rfl,oM,λr q=>by rw[q,Ur,h];rfl⟩)
 case' inr.inr.inr.inl=>have HE:Hid (∃e,e=PE.cls z.k/\z.k.e≠0/\∀r,z.l=z.k::r->rd K.t.n (F+1) 0 .emp z.l=.inr (e,r)):=(by have h:=(Lu Q.o (c:=91) oM oM).1 S.o;exact⟨_,rfl,oM,λr q=>by rw[q,Ur,h];rfl⟩)
 case' inr.inr.inr.inr.inl=>have HE:Hid (∃e,e=PE.dot z.k/\z.k.e≠0/\∀r,z.l=z.k::r->rd K.t.n (F+1) 0 .emp z.l=.inr (e,r)):=(by have h:=(Lu Q.o (c:=46) oM oM).1 S.o;exact⟨_,rfl,oM,λr q=>by rw[q,Ur,h];rfl⟩)
 iterate 3
  focus
   let⟨e,he,ak,EE⟩:=HE.o;have EE:=ua EE;have am:=ua ak;have ac:=ua he;clear HE he ak;go_wp2_with fail;refine Xn S0.o am.o λg W1 v A B o=>?_;have O:=ua A;have HL:=ua (Bj List.length A);clear A;let⟨q2,p2,l2⟩:=(BX.o o).x;have TR:Hid (∀ty u W2,Kf W1 W2->Gc (K.X g) W2 e (.iface ty u)->P (Rt (.iface ty u)) W2):=λty u W2 D t2=>NX.o e g ty u W2 (EE.o _ O.o) (B.kp D) (by have:=(M0.o.c o).c (.of D);rw[ac.o]at *;exact this) t2 (by have:=HL.o;simp at this;omega);first
    |(obtain rfl:=ac.o;have ht:=SS.o.w;rw[<-ad.o]at q2;have h1:=SS.o.tn;have h2:=ht.c;have HB:=ua ht.h;have X1:=ua B.x;clear ht;go_wp2_with fail;refine uhx (X:=K.X g) X1.o HB.o oM (λty u W2 t2 D=>?_);go_wp2;exact TR.o _ _ _ D t2;done)
    |(obtain rfl:=ac.o;have ST:=ua (yu S0.o.set o.d);go_wp2;exact TR.o _ _ _ Cc ⟨_,_,by rw[an.o],ST.o⟩;done)
    |(obtain rfl:=ac.o;have X1:=ua B.x;go_wp2;exact TR.o _ _ _ zY ⟨_,2,rfl,YR X1.o⟩;done)
 have A:(x==97)=false:=by simpa using n1
 have e2:(x==94)=false:=by simpa using n2
 have e3:(x==34)=false:=by simpa using n3
 have e4:(x==91)=false:=by simpa using n4
 have e5:(x==46)=false:=by simpa using n5
 have E:Hid (∀r,z.l=z.k::r->rd K.t.n (F+1) 0 .emp z.l=if z.k.e=40 then (match rd K.t.n F 5 .emp r with|.inl p=>.inl p|.inr (e,r')=>match r' with|[]=>.inl K.t.n|y'::r''=>if y'.e=41 then .inr (.grp z.k e y',r'') else .inl y'.f) else .inl z.k.f):=λr q=>(by
  have h:=S.o;have h7:=Q.o;unfold kk at h;rw[q,Ur,Zn (by intro e;rw[Zp e]at h;omega),Zn (by intro e;rw[Zn oM]at h;omega),Zn (by intro e;rw[Zn oM]at h;omega),Zn (by intro e;rw[Zn oM]at h;omega),Zn (by intro e;rw[Zn oM]at h;omega)])
 clear n1 n2 n3 n4 n5;have K0:Hid (z.k.e=40):=SS.o.y (λq=>U K.t.n (by rw[q,rd.eq_def])) (λr q h=>U z.k.f (by rw[E.o _ q,Zn h]));go_wp2_with fail;refine qi S0.o (by rw[K0.o];omega) ((Lu Q.o oM oM).2 K0.o) λg W1 A B o=>?_;have O:=ua ((E.o _ A).trans (Zp K0.o));have G:=Bj List.length A;simp at G;clear A;unfold Im;go_wp2_with fail;refine G5.o K g W1 _ B (oH HF.o) (λp q=>U p (by rw[O.o,q])) λx Y ty u W2 e H L t2 n2=>?_;have Z:=ua (O.o.trans (by rw[e]));clear e;have K3:Hid (Y.k.e=41):=H.y (λq=>U K.t.n (by rw[Z.o,q])) (λr q h=>U Y.k.f (by rw[Z.o,q];exact Zn h));go_wp2_with fail;refine qi H (by rw[K3.o];omega) ((Lu H.e oM oM).2 K3.o) λz3 V e3 s3 m3=>?_;have ao:=Bj List.length e3;simp at ao;have aa:=ua (NX.o (.grp z.k x Y.k) z3 ty u V (Z.o.trans (by rw[e3];exact Zp K3.o)) s3 (((M0.o.c o).c L).f m3) (t2.mv m3.d) oM);clear e3;unfold Im;go_wp2;exact aa.o
end
def uxp(g:Nat):Prop:=Ia 240 0 1 1 g/\Ia 225 1 2 1 g/\Ia 214 2 3 1 g/\Ia 193 4 4 0 g/\Ia 144 5 6 0 g
def JO:∀f g,g<=f->uxp g
 |0,g,a=>by
  obtain rfl:g=0:=oM;refine⟨?_,?_,?_,?_,?_⟩<;>exact λ_ _ _ _ _ h=>aB h oM
 |f+1,g,a=>by
  by_cases h:g<=f
  .exact JO f g h
  obtain rfl:g=f+1:=oM;have b:=JO f;let⟨c,d,e,j,i⟩:=b f zD;exact⟨uht i,ujd c,uje d e,uqD (λg a=>(b g a).2.2.1),uqF (λg a=>(b g a).2.2.2.1)⟩
end
section
open M (OpD ug Gr)
def us8:(prog.info? 170).map (λi=>(i.zero,i.size,i.bytes))=some (some (.agg #[.string ⟨#[]⟩,Iv 0,Bf,.nilIface]),4,48):=rR
def uvQ:vJ 77 170 4 48:=⟨underlying77,⟨_,us8,rfl⟩,oM⟩
def Sk(q:Rl)(v:Vl):List Value:=[.string (str q.f.nm.length (lf q.f.nm)),Iv (q.f.f:Nat),.bool q.a.isSome,v]
abbrev YF(q:Rl)(v:Vl):Obj:=.cells #[.string (str q.f.nm.length (lf q.f.nm)),Iv (q.f.f:Nat),.bool q.a.isSome,v] 170
def Jh(X:Np)(w:Wl):List Rl->List Value->Prop
 |[],cs=>cs = []
 |q::r,cs=>∃ty u d,cs=Sk q (.iface ty u)++d/\Gc X w q.e (.iface ty u)/\Jh X w r d
def BI(D X:Np)(w:Wl)(v:Vl)(a:List Rl):Prop:=∃cs,zB D w v 4 a.length cs/\Jh X w a cs
section
variable {X X' D:Np} {w w' W W':Wl} {v u:Vl} {qs:List Rl} {q:Rl} {cs:List Value} {ty:TypeId} {K:RK} {z z1:RZ} {P:Ew}
def Jh.mv(m:Cu X w X' w'):∀{a:List Rl} {cs:List Value},Jh X w a cs->Jh X' w' a cs
 |[],_,h=>h
 |_::_,_,⟨ty,u,d,e,h1,h2⟩=>⟨ty,u,d,e,h1.mv m,Jh.mv m h2⟩
def Jh.d(a:Gc X w q.e (.iface ty u)):∀{b:List Rl} {cs:List Value},Jh X w b cs->Jh X w (b++[q]) (cs++Sk q (.iface ty u))
 |[],_,h=>⟨ty,u,[],by rw[show _ = [] from h];simp,a,rfl⟩
 |_::_,_,⟨ty,u,d,e,h1,h2⟩=>⟨ty,u,d++_,by rw[e,Ce],h1,Jh.d a h2⟩
def xS(a:List Rl):List zI:=a.flatMap (λq=>q.e.b)
def jA(b:List Rl):List zI:=b.flatMap (λq=>q.e.a)
structure RK.DS(K:RK)(z:RZ)(qs:List Rl)(W:Wl):Prop where
 st:K.S z W
 g:BI K.D (K.X z) W K.v6 qs
 rf:z.rf=xS qs
 th:z.th=jA qs
 c:qs.length+z.l.length<=1000000
def RK.S.dc(s:K.S z W):∀b,K.D b->¬K.C z b:=λb q c=>c.elim (s.d b q).2 (λc=>c.elim (λc=>(s.a b c).2.2.2 q) (λc=>(s.b b c).2.2 q))
def RK.DS.k(s:K.S z W)(G:BI K.D (K.X z) W K.v6 qs)(A:qs.length<=1000000)(H:Gc (K.X z) W q.e (.iface ty u)) :
  ∃a c W' f,(Builtin.append_ #[77,77] 77 #[K.v6,Sl (Sm W.heap.size 0) 1 1]).run prog (W.alloc (YF q (.iface ty u)))=.ok (Sl a (qs.length+1) c) W'/\zG W' K.rb (Ut K.t (K.rv z) K.ta z.i)/\zA K.D W W' /\
  ({ K with v6:=Sl a (qs.length+1) c,D:=f }:RK).S z (W'.setCell (Ad K.rb 6) (Sl a (qs.length+1) c))/\BI f (({ K with v6:=Sl a (qs.length+1) c,D:=f }:RK).X z) (W'.setCell (Ad K.rb 6) (Sl a (qs.length+1) c)) (Sl a (qs.length+1) c) (qs++[q]) /\
  Cu (K.X z) W (({ K with v6:=Sl a (qs.length+1) c,D:=f }:RK).X z) (W'.setCell (Ad K.rb 6) (Sl a (qs.length+1) c)):=by
 obtain⟨cs,v,y⟩:=G;let⟨a,c,W',E,B,k⟩:=Uq (o:=YF q (.iface ty u)) (news:=Sk q (.iface ty u)) uvQ v (λb q=>(s.d b q).1) (qg underlying77 rfl rfl rfl) A oM;have I:=k.l;have F:=s.sc.e.x.2.2;have p:=s.sc.e.a (k.d _ F (λq=>(s.d _ q).2 rfl));have st:∀b,b≠K.rb->(W'.setCell (Ad K.rb 6) (Sl a (qs.length+1) c)).heap[b]?=W'.heap[b]?:=λb n=>Bn n;have m:Cu (K.X z) W (({ K with v6:=Sl a (qs.length+1) c,D:=λb=>(K.D b\/W.heap.size<=b)/\b<W'.heap.size }:RK).X z) (W'.setCell (Ad K.rb 6) (Sl a (qs.length+1) c)) :=
  ⟨(k.h (λ_ q=>.inr q)).c (Dh (.inl (.inl rfl))),λb q=>q.elim (λq=>.inl (.inl q)) (λq=>q.1.imp .inr id)⟩
 refine⟨a,c,W',_,E,p,k,⟨⟨p.set 6 _,(yu s.s m).g (λb n=>⟨n.1,λe=>n.2 (.inl (.inl e))⟩),s.sc.le⟩,yu s.s m,yu s.set m,s.j.on (λb q=>(st b (s.a b q).2.1).trans (k.d b (s.a b q).1 (s.a b q).2.2.2)) (λ_ q=>q),s.m.on (λb q=>(st b (s.b b q).2.1).trans (k.d b (s.b b q).1 (s.b b q).2.2)) (λ_ q=>q),s.g,s.nz,λb q=>?_,λb q=>?_,λb q=>?_,s.r,s.w,s.e,s.C,s.tn⟩,
  ⟨_,by rw[zJ,Dd];exact B.on (λb q=>st b (λe=>q.1.elim (λq=>(s.d b q).2 e) (λq=>oM))),Jh.d (H.mv m) (y.mv m)⟩,m⟩
 .exact⟨by rw[uh];have:=(s.a b q).1;omega,(s.a b q).2.1,(s.a b q).2.2.1,λx=>x.1.elim (s.a b q).2.2.2 (λx=>oH ((s.a b q).1))⟩
 .exact⟨by rw[uh];have:=(s.b b q).1;omega,(s.b b q).2.1,λx=>x.1.elim (s.b b q).2.2 (λx=>oH ((s.b b q).1))⟩
 exact⟨by rw[uh];exact q.2,q.1.elim (λq=>(s.d b q).2) (λq e=>by have e':b=K.rb:=e;omega)⟩
def us9{n}{c:Option zI}{l}(h:∀y r,l=y::r->y.e≠110):yf n c l=.inl (pos n l):=by
 cases l with
 |nil=>rfl
 |cons y r=>simp only[yf];rw[Zn (h y r rfl)];rfl
def uta{n}{c:Option zI}{x l}(a:x.e=110)(h:∀y r,l=y::r->y.e≠61):yf n c (x::l)=.inl (pos n l):=by
 simp only[yf];rw[Zp a];cases l with
 |nil=>rfl
 |cons y r=>simp only;rw[Zn (h y r rfl)];rfl
def uqJ{n}{c:Option zI}{x y l p}(a:x.e=110)(b:y.e=61)(h:rd n (8*l.length+8) 5 .emp l=.inl p):yf n c (x::y::l)=.inl p:=by
 simp only[yf];rw[Zp a,Zp b];rw[h]
def unW{n}{c:Option zI}{x y l l2 e}(b:x.e=110)(d:y.e=61)(a:rd n (8*l.length+8) 5 .emp l=.inr (e,l2))(h:∀z r,l2=z::r->z.e≠59):yf n c (x::y::l)=.inl (pos n l2):=by
 simp only[yf];rw[Zp b,Zp d,a];cases l2 with
 |nil=>rfl
 |cons z r=>simp only;rw[Zn (h z r rfl)];rfl
def utb{n}{c:Option zI}{x y z l l2 e}(b:x.e=110)(d:y.e=61)(a:rd n (8*l.length+8) 5 .emp l=.inr (e,z::l2))(h:z.e=59):yf n c (x::y::l)=.inr (⟨c,x,y,e,z⟩,l2):=by
 simp only[yf];rw[Zp b,Zp d,a];simp only;rw[Zp h]
def utc(s:K.S z W)(c:∀b a W1,xA K.t.n z.l=yf K.t.n b a.l->a.l.length<=z.l.length->K.S a W1->K.M z W a W1 [] []->P (Rt (.bool b.isSome)) W1):Cs 142 #[rp K.rb,Bv 94] W P:=by
 refine qh s oM oM oM (λh=>?_) (λa W1 h e f d=>?_)
 .refine c none z W ?_ zD s (.e _ _ _);cases q:z.l with
  |nil=>rfl
  |cons y r =>
   obtain rfl:=s.q q;simp only[xA];rw[Zn h]
 refine c (some z.k) a W1 ?_ (by rw[e];simp) f d;rw[e];simp only[xA];rw[Zp h]
def RK.Ru(K:RK)(z:RZ)(b:List Rl)(W:Wl)(P:Ew):Prop :=
 ∀q v6 D a W' v,xA K.t.n z.l=.inr (q,a.l)->({ K with v6:=v6,D:=D }:RK).DS a (b++[q]) W'->Cu (K.X z) W (({ K with v6:=v6,D:=D }:RK).X a) W'->a.l.length+1<=z.l.length->P (Rt v) W'
def uk0(s:K.DS z qs W)(ne:∀p,xA K.t.n z.l≠.inl p)(al:K.Ru z qs W P):Cs 88 #[rp K.rb] W P:=by
 have m:=ua s;have NX:=ua al;have C:=ua ne;go_enter func88,ntmps88;go_wp2_with fail;refine utc m.st λG j W1 e1 n1 J m1=>?_;have U:=ua e1;let⟨bv,ab⟩:=nm G.isSome;have ae:=ua ab;rw[ab];have w:=ua (show j.k.e=110 from Decidable.of_not_not λh=>C _ (U.trans (us9 (λy r e=>by rw[J.q e];exact h))));go_wp2_with fail;refine qi J (by rw[w.o];omega) ((BH J.e).2 w.o) λQ W2 e2 s2 m2=>?_;have V:=ua (U.trans (by rw[e2]));have ah:=Bj List.length e2;simp at ah;let⟨O,ac⟩:=nm (str j.k.nm.length (lf j.k.nm));have af:=ua ac;let⟨sm,ak⟩:=nm j.k.set.length;let⟨kv,ag⟩:=nm (kk j.k.e);unfold Im;rw[ag,ac,ak];generalize aa:W2.alloc (Oc #[Bv kv,Iv (j.k.f:Nat),.string O,Sl j.sa sm j.sc] 76)=W3;have H:Kf W2 W3:=aa▸zY;have S:Hid (zG W3 W2.heap.size #[Bv kv,Iv (j.k.f:Nat),.string O,Sl j.sa sm j.sc]):=aa▸Eb W2;have Z:=ua s2;have L:=s2.kp H;have m3:=((m1.c m2).c (.of H));have K3:=ua H;have A:=ua (show Q.k.e=61 from Decidable.of_not_not λh=>C _ (V.trans (uta w (λy r e=>by rw[L.q e];exact h))));go_wp2_with fail;refine qi L (by rw[A.o];omega) ((Lu L.e oM oM).2 A.o) λz4 W4 e4 s4 m4=>?_;have E:=ua (V.trans (by rw[e4]));have ai:=Bj List.length e4;simp at ai;unfold Im;go_wp2_with fail;refine(JO _ (8*z4.l.length+8) zD).2.2.2.2 K z4 W4 _ s4 oM (λp q=>C p (E.trans (uqJ w A q))) λx R ty u W5 e5 N m5 t5 n5=>?_;have Y:=ua e5;have F:=ua (show R.k.e=59 from Decidable.of_not_not λh=>C _ (E.trans (unW w A Y (λz r e=>by rw[N.q e];exact h))));go_wp2_with fail;refine qi N (by rw[F.o];omega) ((Lu N.e oM oM).2 F.o) λz6 o e6 s6 I=>?_;have E6:=ua (E.trans (utb w A (by rw[Y.o,e6]) F));have aj:=Bj List.length e6;simp at aj;have B:=((((m3.c m4).c m5).f I).f (.of (Ik o)));have hD:=m.st.dc;have am:BI K.D (K.X z6) o.drew K.v6 qs:=let⟨cs,h1,h2⟩:=m.g;⟨cs,h1.on (λb q=>B.kp.d b (m.st.d b q).1 (hD b q)),h2.mv B.d⟩
 have sd:=s6.kp (Ik o);have ao:=m.c;let⟨a,c,W7,D',hr,bx,k7,s7,an,m7⟩:=RK.DS.k (q:=⟨G,j.k,Q.k,x,R.k⟩) sd am oM ((t5.mv I.d).mv (Cu.d (Ik o)));have HR:Hid ((Builtin.append_ #[77,77] 77 #[K.v6,Sl (Sm o.drew.heap.size 0) 1 1]).run prog (o.drew.alloc (Oc #[.string O,Iv (j.k.f:Nat),.bool bv,.iface ty u] 170))=.ok (Sl a (qs.length+1) c) W7):=(by show _=_;rw[<-af.o,<-ae.o];exact hr);have ad:=ua (λv=>NX ⟨G,j.k,Q.k,x,R.k⟩ _ D' z6 _ v E6 ⟨s7,an,by rw[B.rf,m.o.rf];simp[xS],by rw[B.th,m.o.th];simp[jA],sO⟩ (B.d.c m7) oM);have M6:=((m4.c m5).c I);have lv:=S.x.2.2;have T:=S.a (M6.kp.d _ lv (λq=>oH (Z.x _ (.inl q))));let⟨q1,p1,l1⟩:=s6.sc.e.x;let⟨q2,p2,l2⟩:=T.x;let⟨q3,p3,l3⟩:=bx.x;let⟨q4,p4,l4⟩:=(T.a (w':=W7) ((k7.d _ l2 (λq=>oH ((Z.d _ q).1))).trans ((zA.i (λ_=>False) o).d _ l2 (λe=>e)))).x;generalize qs.length+1=nn at *;unfold Im;go_wp2_with fail;go_region_law (refine Xm rfl (.tmp 19) (.tmp 27) rfl (by simp[Act.eval,RK.rv]) (by simp[Act.eval]) HR.o ?_);all_goals (
  go_wp2;exact zL (results_none rfl _ _ _) rfl (ad _))
end
end
section
open M (OpD ug Gr)
def Um(a:List Rl):Sum Nat (List Rl)->Sum Nat (List Rl)
 |.inl p=>.inl p
 |.inr q=>.inr (a++q)
def uqq{n f l a q}b(h:xA n l=.inr (q,a)):Um b (yB n (f+1) l)=Um (b++[q]) (yB n f a):=by
 cases l with
 |nil=>simp[xA]at h
 |cons x r =>
  simp only[yB];rw[h];simp only;cases yB n f a with
  |inl p=>rfl
  |inr z=>simp[Um]
def uqr{n f l p}b(a:l≠[])(h:xA n l=.inl p):Um b (yB n (f+1) l)=.inl p:=by
 cases l with
 |nil=>exact absurd rfl a
 |cons x r=>simp only[yB];rw[h];rfl
def JD(a:Oa)(b:Nat):Rv:=⟨a,b,Bv 0,Iv 0,.string ⟨#[]⟩,nS,nS,nS,nS⟩
section
variable {rb:Nat} {t:Tx} {ta:Oa} {tc:Nat} {W W':Wl} {P:Ew}
def uyi(rb:Nat)(t:Tx)(c:Oa)(d:Nat)(W:Wl)(P:Ew):Prop :=
 ∀a v6 D z W' v,yB t.n ((uY t).length+1) (uY t)=.inr a->(RK.mk rb t c d v6 D).DS z a W'->Cu (λb=>b=rb) W ((RK.mk rb t c d v6 D).X z) W'->P (Rt v) W'
def JE(F:Nat)(rb:Nat)(t:Tx)(c:Oa)(d:Nat)(W:Wl)(v:Vl)(wr:Wl):Prop :=
 ∃f a v6 D z,z.l.length<f/\yB t.n F (uY t)=Um a (yB t.n f z.l)/\(RK.mk rb t c d v6 D).DS z a wr/\Cu (λb=>b=rb) W ((RK.mk rb t c d v6 D).X z) wr
def unS(s:Sc rb t (JD ta tc) 0 W)(J:t.n<=tc)(w:t.n<=4000)(y:∀x∈uY t,x.e≠0)(O:∀p,yB t.n ((uY t).length+1) (uY t)≠.inl p)(af:uyi rb t ta tc W P):Cs 33 #[rp rb] W P:=by
 have NX:=ua af;have NE:=ua O;have SS:=ua s;have u:Left t (⟨1,0,[],[]⟩:zI) 0 (⟨1,0,[],[]⟩::Lt t 0):=.inl ⟨rfl,by show(1:Int)≠0;omega,zK⟩;have E:=ua (YD u (λx q=>(Dm.1 q).elim (λq=>by rw[q];show(1:Int)≠0;omega) (y x)));have V:=ua u;have ab:=ua y;have ae:(uY t).length<=8000:=zP (qJ _) (zP (Zx t).2 oM);have ac:=ua ae;go_enter func33,ntmps33;go_wp2_with fail;refine XD s J ⟨λW1 k j sa sc v e Q i1 k1=>?_,E⟩;have C:Hid (∀v,JE ((uY t).length+1) rb t ta tc W v W1):=λv=>(by
  have w:=YC V E;have A:=YE t 0;rw[e]at w A;have L:∀{N:IntKind} {a:Oa} {n:Nat} {T:Nat->Int},Ints (λb=>b<W1.heap.size/\b≠rb) N W1 a n T->Ints (Out ((RK.mk rb t ta tc nS (λ_=>False)).X ⟨nS,nS,k,sa,sc,j,uY t,[],[],λ_=>False,λ_=>False⟩) W1) N W1 a n T:=λh=>h.g (λb q=>⟨q.1,λx=>x.elim (λx=>x.elim q.2 (λx=>x.elim id id)) id⟩);have hr:=SS.o.e.x.2.2;have ah:=ac.o;refine⟨(uY t).length+1,[],nS,λ_=>False,⟨nS,nS,k,sa,sc,j,uY t,[],[],λ_=>False,λ_=>False⟩,Iy _,by cases yB t.n ((uY t).length+1) (uY t)<;>rfl,⟨⟨Q,L Q.s,L (i1.g (λb q=>⟨q.2,λe=>by have:=q.1;omega⟩)),⟨[],.inl ⟨rfl,rfl,rfl⟩,rfl⟩,⟨[],.inl ⟨rfl,rfl,rfl⟩,rfl⟩,w,ab,λ_ q=>q.elim,λ_ q=>q.elim,λ_ q=>q.elim,J,A.1,A.2,by show 0+0+(uY t).length<=_;omega,by show t.n<=_;omega⟩,⟨[],.inl ⟨rfl,rfl,rfl⟩,rfl⟩,rfl,rfl,by show 0+(uY t).length<=_;omega⟩,⟨k1,λb q=>q.elim (λq=>q.elim .inl (λq=>q.elim (λq=>q.elim) (λq=>q.elim))) (λq=>q.elim)⟩⟩)
 clear e u y O;go_wp2;go_loopw [4] (JE ((uY t).length+1) rb t ta tc W) (λ_ wr=>lenM t rb wr)
 .exact C.o _
 clear C;obtain⟨f,m,v6,D,z,i,G,d,I⟩:=hrel;have r:=ua G;have Y:=ua d.st.v;have B:=ua d;have F:=ua I;have c2:wr.cell? (Ad rb 2)=some (Bv (kk z.k.e)):=d.st.sc.e.x.1 2;have o:=ua ((Lu d.st.e oM oM).trans d.st.g.e.symm:kk z.k.e=0↔z.l = []);clear G d I;generalize kk z.k.e=c at *;by_cases H:c=0
 .subst H;have U:=ua (λv=>NX.o m v6 D z wr v (by
   obtain⟨g,rfl⟩:∃g,f=g+1:=⟨f-1,oM⟩;rw[r.o,o.o.1 rfl];simp[yB,Um]) B.o F.o)
  go_wp2;exact zL (results_none rfl _ _ _) rfl (U.o _)
 have aa:Hid (z.l≠[]):=λq=>H (o.o.2 q);have hf':=ua i;clear o i;go_wp2_with fail;refine uk0 (K:=RK.mk rb t ta tc v6 D) (P:=_) B.o (λp hb=>NE p (by
  have i:=hf'.o;obtain⟨g,rfl⟩:∃g,f=g+1:=⟨f-1,oM⟩;exact r.o.trans (uqr m aa.o hb))) λq ag S z' W2 v e R m2 n2=>?_
 have ad:Hid (∀v,JE ((uY t).length+1) rb t ta tc W v W2):=λv=>(by
  have i:=hf'.o;obtain⟨g,rfl⟩:∃g,f=g+1:=⟨f-1,oM⟩;exact⟨g,m++[q],ag,S,z',oM,r.o.trans (uqq m e),R,F.o.c m2⟩)
 have Z:=ua R.st.v;clear e;go_wp2;go_roundw
 .exact ad.o _
 rw[Y.o];exact Ba (Nat.lt_of_le_of_lt (Nat.le_of_eq Z.o) (Iy _)) n2
end
end
section
open M (OpD ug Gr)
def yG(b:List Rl):List LI:=(b.filter (λq=>q.a.isSome)).map (λq=>q.f.nm)
def Cg(a:List LI)(z:LI):Nat:=a.idxOf z
def uhr b q:uq (b++[q])=if q.a.isSome then uq b else uq b++[q.f.nm]:=by
 unfold uq;rw[List.filter_append,Dt];cases h:q.a with
 |none=>simp[h]
 |some c=>simp[h]
def ui5 b q:yG (b++[q])=if q.a.isSome then yG b++[q.f.nm] else yG b:=by
 unfold yG;rw[List.filter_append,Dt];cases h:q.a.isSome<;>simp[h]
def JJ{a:List Rl}{k:Nat}{q:Rl}(h:a[k]?=some q):a.take (k+1)=a.take k++[q]:=by
 rw[Jl,h];rfl
def ukV{a:List Rl}{k:Nat}{q:Rl}(h:a[k]?=some q):a.drop k=q::a.drop (k+1):=by
 obtain⟨b,e⟩:=Bz.1 h;rw[Tb b,e]
def XN{seen}{q}:seen.any (λs=>jt s q)=true↔q.f.nm∈(if q.a.isSome then yG seen else uq seen):=by
 rw[List.any_eq_true];unfold jt yG uq;cases h:q.a.isSome
 .simp only[Ng,beq_iff_eq,decide_eq_true_eq,Gj,Th,Nh,if_false];constructor
  .rintro⟨s,b,c,d⟩;exact⟨s,⟨b,by rw[c];rfl⟩,d⟩
  rintro⟨s,⟨b,c⟩,d⟩;exact⟨s,b,by simpa using c,d⟩
 simp only[Ng,beq_iff_eq,decide_eq_true_eq,Gj,Th,if_true];constructor
 .rintro⟨s,b,c,d⟩;exact⟨s,⟨b,c⟩,d⟩
 rintro⟨s,⟨b,c⟩,d⟩;exact⟨s,b,c,d⟩
def uvL{b:List Rl}{k:Nat}{q:Rl}(h:b[k]?=some q):jk (b.take k) (b.drop k)=if q.f.nm∈(if q.a.isSome then yG (b.take k) else uq (b.take k)) then some q.f.f else jk (b.take (k+1)) (b.drop (k+1)):=by
 rw[ukV h,jk,JJ h];by_cases e:(b.take k).any (λs=>jt s q)=true
 .rw[Zp e,Zp ((XN).1 e)]
 rw[Zn e,Zn (λz=>e ((XN).2 z))]
def uqx{a z}(h:z ∉ a):∀y∈a++[z],Kk (Cg a) z a.length y=Cg (a++[z]) y:=by
 intro y b;unfold Kk Cg;by_cases e:y=z
 .rw[Zp e,e,List.idxOf_append,Zn h];simp[List.idxOf_cons]
 rw[Zn e];rcases By.1 b with q|q
 .rw[List.idxOf_append,Zp q]
 exact aB (Bu.1 q) e
def zU.d{w w':Wl}{b:Nat}{a:List LI}{z:LI}(h:zU w' b (jG a z) (Kk (Cg a) z a.length))(c:z ∉ a):zU w' b (a++[z]) (Cg (a++[z])):=by
 unfold jG at h;rw[Zn c]at h;exact h.e (uqx c)
def XO{z}:∀{a:List LI} {i:Nat},z∈a->vN z a i=((i+Cg a z:Nat):Int)
 |[],_,h=>by cases h
 |y::r,i,h=>by
  rw[vN];by_cases e:y=z
  .rw[Zp e,e];simp[Cg]
  rw[Zn e];have b:z∈r:=by
   rcases Dm.1 h with q|q
   .exact aB q.symm e
   exact q
  rw[XO b];unfold Cg;have e':(y==z)=false:=by simp[e]
  rw[List.idxOf_cons,e'];simp only[cond_false];congr 1;omega
def Jh.at{X w}:∀{b:List Rl} {cs:List Value},Jh X w b cs->cs.length=b.length*4/\∀{k:Nat} {q:Rl},b[k]?=some q->∃ty u,Gc X w q.e (.iface ty u)/\∀j,j<4->cs[k*4+j]?=(Sk q (.iface ty u))[j]?
 |[],cs,h=>⟨by rw[show cs = [] from h];rfl,λa=>by simp at a⟩
 |y::r,_,⟨ty,u,d,rfl,h1,h2⟩=>by
  have f:=Jh.at h2;have g:(Sk y (.iface ty u)).length=4:=rfl;refine⟨by rw[zJ,f.1,g,Db];omega,λ{k q} a=>?_⟩;cases k with
  |zero =>
   obtain rfl:y=q:=(by simpa using a);exact⟨ty,u,h1,λj c=>by rw[Gf,Bp,Es oM]⟩
  |succ k =>
   obtain⟨m,n,i,l⟩:=f.2 (k:=k) (by simpa using a);exact⟨m,n,i,λj c=>by rw[Fb oM,g,show(k+1)*4+j-4=k*4+j by omega];exact l j c⟩
def Gt.at:∀{l:List zI} {cs:List Value},Gt l cs->cs.length=l.length*4/\∀{k:Nat} {x:zI},l[k]?=some x->∃a n c,∀j,j<4->cs[k*4+j]?=(Sj x (Sl a n c))[j]?
 |[],cs,h=>⟨by rw[show cs = [] from h];rfl,λb=>by simp at b⟩
 |y::r,_,⟨a,n,c,d,rfl,h2⟩=>by
  have f:=Gt.at h2;have g:(Sj y (.slice a n c)).length=4:=rfl;refine⟨by rw[zJ,f.1,g,Db];omega,λ{k q} b=>?_⟩;cases k with
  |zero =>
   obtain rfl:y=q:=(by simpa using b);exact⟨a,n,c,λj e=>by rw[Gf,Bp,Es oM]⟩
  |succ k =>
   obtain⟨i,o,c',m⟩:=f.2 (k:=k) (by simpa using b);exact⟨i,o,c',λj e=>by rw[Fb oM,g,show(k+1)*4+j-4=k*4+j by omega];exact m j e⟩
def JK{D:Np}{w w':Wl}{a:Oa}{n c m:Nat}{cs:List Value}(h:zB D w (Sl a n c) 4 n cs)(o:cs.length=n*4)(p:m<n):∃g,a=some (Ad g 0)/\D g/\∀j,j<4->w.cell? (Ad g (m*4+j))=cs[m*4+j]?:=by
 rcases h with⟨_,e,_⟩|⟨g,cap,e,d,f,i,b,k⟩
 .omega
 injection e with e1 _ _;exact⟨g,e1,d,λj l=>b _ oM⟩
def BE{w w':Wl}{g k:Nat}{b c v2 v3:Vl}(h:∀j,j<4->w.cell? (Ad g (k+j)) = [b,c,v2,v3][j]?)(e:w'.heap[g]?=w.heap[g]?):w'.cell? (Ad g k)=some b/\w'.cell? (Ad g (k+1))=some c/\w'.cell? (Ad g (k+2))=some v2/\w'.cell? (Ad g (k+3))=some v3:=by
 have f:∀o,w'.cell? (Ad g o)=w.cell? (Ad g o):=λo=>Bd (a:=(Ad g o)) e;rw[f,f,f,f];exact⟨h 0 oM,h 1 oM,h 2 oM,h 3 oM⟩
def JL{C w W W' b}(k:zA C w W)(g:W.grownBy W' (some b))(h:w.heap.size<=b):zA C w W' :=
 ⟨g.os.trans k.os,g.tape.trans k.g,g.output.trans k.f,zP k.l g.size,λx a c=>(g.block x (Ba a k.l) (λe=>by injection e with e;omega)).trans (k.d x a c)⟩
def BF(a:List Rl):Prop:=∀q∈a,zW q.f.nm/\q.f.nm.length<=1000000
def xw(c:Bool)(a:List Rl):List LI:=if c then yG a else uq a
def XP(c:Bool)(a:List Rl)(m:Nat):(xw c (a.take m)).length<=m:=by
 unfold xw yG uq;split<;>exact zP (by rw[Bl];exact List.length_filter_le _ _) (by rw[Fw];omega)
def ukW{b:List Rl}{q:Rl}{m:Nat}(h:b[m]?=some q)(c:Bool):xw c (b.take (m+1))=if q.a.isSome=c then xw c (b.take m)++[q.f.nm] else xw c (b.take m):=by
 unfold xw;rw[JJ h,ui5,uhr];cases c<;>cases q.a.isSome<;>rfl
def XR(a:List Rl)(w:Wl)(v:Vl)(wr:Wl):Prop :=
 ∃k:Nat,k<=a.length/\v=Iv (k:Nat)/\jk [] a=jk (a.take k) (a.drop k)/\Kf w wr/\∀c:Bool,zU wr (w.heap.size+c.toNat) (xw c (a.take k)) (Cg (xw c (a.take k)))
section
variable {K:RK} {z:RZ} {W:Wl} {qs:List Rl} {P:Ew}
def ukX(s:K.DS z qs W)(b:BF qs)(hd:jk [] qs=none)(ok:∀W',Kf W W'->(∀c:Bool,zU W' (W.heap.size+c.toNat) (xw c qs) (Cg (xw c qs)))->P (Rt (.tuple #[.map (some W.heap.size),.map (some (W.heap.size+1))])) W') :
  Cs 90 #[rp K.rb] W P:=by
 have OK:=ua ok;have HD:=ua hd;have HQ:=ua b;have al:qs.length<=1000000:=oH s.c;have ak:=@run_makeMap prog;let⟨cs,D,O⟩:=s.g;let⟨ra,rc,U⟩:=uj D;have c6:=(s.st.sc.e.x.1 6).trans (Bj some U);have am:=s.st.sc.e.x.2.2;rw[U]at D;have aa:Hid (∀m q,qs[m]?=some q->∃g ty u,ra=some (Ad g 0)/\g<W.heap.size/\∀j,j<4->W.cell? (Ad g (m*4+j))=(Sk q (.iface ty u))[j]?):=λm q b=>(by
  let⟨g,e,E,C⟩:=JK (w':=W) D O.at.1 (Bz.1 b).1;let⟨ty,u,_,h3⟩:=O.at.2 b;exact⟨g,ty,u,e,(s.st.d g E).1,λj R=>(C j R).trans (h3 j R)⟩)
 go_enter func90,ntmps90;go_wp2;go_loopw [16] (XR qs W) (λv _=>qs.length-(intOf v).toNat)
 .refine⟨0,zK,rfl,rfl,zY.c zY,λc=>?_⟩;cases c
  .exact(zU.i W _).a _
  have:=zU.i (W.alloc (.map #[] 0)) (Cg []);rwa [show(W.alloc (.map #[] 0)).heap.size=W.heap.size+1 by simp]at this
 obtain⟨m,hm,rfl,hE,p,y⟩:=hrel;have F:=ua hE;have HK:=ua p;have H:=ua y;have ah:=(y false).lt;have ai:=(y true).lt;simp at ah ai;by_cases S:m<qs.length
 .obtain⟨q,b⟩:∃q,qs[m]?=some q:=⟨_,Bb S⟩;obtain⟨g,ty,u,rfl,E,C⟩:=aa m q b;let⟨y0,y1,y2,y3⟩:=BE (w':=wr) C (p.d g E (λe=>e));have aj:g<wr.heap.size:=oH p.l;have hlt':(m:Int)<(qs.length:Int):=oM;have n:=ua (HQ q (Cn b));let⟨bv,B⟩:=nm q.a.isSome;have r:Hid (jk (qs.take m) (qs.drop m)=if q.f.nm∈xw bv (qs.take m) then some q.f.f else jk (qs.take (m+1)) (qs.drop (m+1))):=(by have:=uvL b;rw[B]at this;exact this);have ab:=ua (λc=>B▸ukW b c);let⟨V,T⟩:=nm (str q.f.nm.length (lf q.f.nm));have I:=ua T;rw[B]at y2;rw[T]at y0;have ag:=XP bv qs m;generalize A:wr.alloc (Oc #[.string V,Iv (q.f.f:Nat),.bool bv,.iface ty u] 170)=X;have KX:Hid (Kf W X):=p.c (A▸zY);have t:Hid (∀c:Bool,zU X (W.heap.size+c.toNat) (xw c (qs.take m)) (Cg (xw c (qs.take m)))):=λc=>A▸(H c).a _;let⟨q0,p0,l0⟩:=(A▸um wr #[.string V,Iv (q.f.f:Nat),.bool bv,.iface ty u] 170:zG X wr.heap.size _).x;have J:Hid (q.f.nm ∉ xw bv (qs.take m)->∀W',zU W' (W.heap.size+bv.toNat) (jG (xw bv (qs.take m)) q.f.nm) (Kk (Cg (xw bv (qs.take m))) q.f.nm (xw bv (qs.take m)).length)->X.grownBy W' (some (W.heap.size+bv.toNat))->XR qs W (Iv ((m:Int)+1)) W'):=λh W' h1 L=>(by
   refine⟨m+1,S,sM,by rw[F.o,r.o,Zn h],JL KX L oM,λc=>?_⟩;rw[ab.o c];by_cases e:bv=c
   .subst e;rw[Zp rfl];exact zU.d (w:=X) h1 h
   rw[Zn e];exact(t c).on (L.block _ (t c).lt (λq=>by injection q with q;cases bv<;>cases c<;>simp at q e)))
  have o:=ua (t bv);let⟨k,af⟩:=nm (xw bv (qs.take m));rw[af]at r o J ag;by_cases h:q.f.nm∈k
  .exact nomatch HD.o.symm.trans ((F.o.trans r.o).trans (Zp h))
  have Z:=ua (Ix h);have ac:=ua (J h);have ae:k.length+1<=1000000:=oM;have G:=ua ae;cases bv;all_goals (
   go_wp2_with (first
    |(at_lookup;refine LP _ rfl _ _ rfl _ k _ q.f.nm rfl o (by rw[I.o];rfl) n.1 n.2 false Z ?_)
    |(at_len;refine CZ _ rfl _ rfl _ k _ rfl o ?_)
    |(at_mapUpdate;refine DA _ rfl _ _ _ rfl _ k _ q.f.nm k.length rfl o (by rw[I.o];rfl) rfl n.1 n.2 G (Nat.le_of_succ_le G) ?_;intro W' N Q;have ad:=ua (ac W' N Q);clear N Q))
   go_roundw;all_goals first
    |exact ad
    |(simp[intOf];omega))
 obtain rfl:m=qs.length:=oM;have Y:=ua (OK wr HK (by have:=H;rw[Pa]at this;exact this));go_wp2;exact Y
end
end
section
section
open Go.RowKit Go.Maps Go.Sort Go.Shelf
def Tryz.sorts68 m:AnyZ.SortsIn prog Tryz.eD Fence.wide m :=
 ⟨λGl off cap d W a b c=>callsIn_wide.2 (AnyM.slices_Sort_string Tryz.eC Gl off cap d W a b c),
 λp cap W=>callsIn_wide.2 (AnyM.slices_Sort_string_none Tryz.eC p cap W)⟩
def Tryz.fE(a:Option Nat)W:CallsIn Fence.wide 5 prog 147 #[.map a] W λe w'=>e=Rt (.func (.func 197) #[] #[.pointer (Sm W.heap.size 0)])/\w'=W.alloc (Oc #[.map a] 82) :=
 AnyZ.keys_in Tryz.eA Fence.wide 5 trivial rfl a W
def Tryz.fF{H}(b f:Nat)(a:DataW H)(R:Vl->Option (DataW H×List MemPlace))(w:Wl)(d:w.ownsMap prog 9 R b f a)(n:Maps.size a<=maxLen)(m:Maps.size a*16<=140737488355328) :
  CallsIn Fence.wide 5 prog 146 #[.func (.func 197) #[] #[.pointer (Sm w.heap.size 0)]] (w.alloc (Oc #[.map (some b)] 82)) λe w'=>∃(v:Vl) (c:List (List UInt8)),e=Rt v/\c.Perm (strKeys a) /\
   w'.ownsRow (w.alloc (Oc #[.map (some b)] 82)).heap.size 9 1 v c.length ((c.mergeSort (λx y=>decide (x<=y))).map encStr)/\(v=nS↔c = [])/\Below (w.alloc (Oc #[.map (some b)] 82)).heap.size (w.alloc (Oc #[.map (some b)] 82)) w':=by
 have l:=d.lt;have p:SeqGives Fence.wide 2 prog 197 #[.pointer (Sm w.heap.size 0)] encStr (λc=>c.Perm (strKeys a)) (Maps.size a) (w.alloc (Oc #[.map (some b)] 82)) :=
  AnyZ.keys_gives (ρ:=Tryz.eB) { Tryz.eA with } Fence.wide _ trivial rfl oM w.heap.size b f a _ sM sM (by
   obtain⟨i,h,k,g,o,j⟩:=d;exact⟨i,h,(Iu _ _ b l).trans k,g,o,j⟩)
 exact AnyZ.sorted_in Tryz.fH Fence.wide 5 trivial trivial trivial trivial rfl oM (Tryz.sorts68 _) (enters_of func196 rR rfl) 197 #[.pointer (Sm w.heap.size 0)] trivial (enters_of func197 rR rfl) _ _ n m _ p
end
open M (OpD ug Gr)
def u8(z:LI):List UInt8:=(str z.length (lf z)).data.toList
def i8(x:List UInt8):List Int:=x.map (λb=>(b.toNat:Int))
def BK z:ke z=.string (u8 z):=rfl
def YJ z:encStr (u8 z)=.string (str z.length (lf z)):=by
 unfold encStr u8;simp
def uxt z:u8 z=Ek z.length (lf z):=xV
def Xo{z}(h:zW z):i8 (u8 z)=z:=by
 rw[uxt];unfold i8 Ek;rw[List.map_map];refine Oy (λi=>?_);rw[Ev];by_cases a:i<z.length
 .rw[List.getElem?_range a,Bb a];have e:lf z i=z[i]:=by unfold lf;rw[El,Bb a];rfl
  have b:=h z[i] (Gi a);simp only[Option.map_some,Function.comp,e];congr 1;rw[UInt8.toNat_ofNat'];omega
 rw[List.getElem?_eq_none sO,List.getElem?_eq_none oM];rfl
def uvR{y z}(a:zW y)(b:zW z)(h:u8 y=u8 z):y=z:=by rw[<-Xo a,h,Xo b]
def YK:∀{x y:List UInt8},Fv (i8 x) (i8 y)->x<y
 |_,[],h=>absurd h (Zr)
 |[],y::s,_=>List.Lex.nil
 |x::r,y::s,h=>by
  rcases h with h|⟨e,h⟩
  .refine List.Lex.rel ?_;have h:(x.toNat:Int)<(y.toNat:Int):=h;exact UInt8.lt_iff_toNat_lt.2 oM
  have e:(x.toNat:Int)=(y.toNat:Int):=e;have e:x=y:=UInt8.toNat_inj.1 oM;subst e;exact List.Lex.cons (YK h)
def YL:∀{S:List (List UInt8)},S.Pairwise (λa b=>leB a b=true)->S.Nodup->Fg (S.map i8)
 |[],_,_=>trivial
 |x::r,h,hn=>by
  let⟨d,f⟩:=List.pairwise_cons.1 h;let⟨k,l⟩:=List.nodup_cons.1 hn;refine⟨λy j=>?_,YL f l⟩;obtain⟨z,c,rfl⟩:=Gj.1 j;rcases Zs (i8 x) (i8 z) with q|q|q
  .exact q
  .have i:x=z:=by
    have g:∀a b:List UInt8,i8 a=i8 b->a=b:=λa b e=>by
     unfold i8 at e;exact(List.map_inj_right (λp q e=>UInt8.toNat_inj.1 (by have e:(p.toNat:Int)=(q.toNat:Int):=e;omega))).1 e
    exact g _ _ q
   exact aB (by rw[i];exact c) k
  have:=d z c;simp only[leB,decide_eq_true_eq]at this;exact aB (YK q) this
def unX{w}{b:Nat}{d:List LI}{n:Nat}{D:DataW Unit}(s:Tj w b n D)(C:∀l,Maps.has D l=true↔∃z∈d,l=ke z)(i:∀z∈d,zW z)(G:d.Nodup){h:List (List UInt8)}(k:h.Perm (strKeys D)) :
  ∃ls,ls.Perm d/\Fg ls/\h.mergeSort leB=ls.map u8:=by
 let⟨u,j,J,_⟩:=s.entries Rf;let⟨y,o,F⟩:=s.keysOf;obtain rfl:u=y:=by rw[j]at o;simpa using o
 have r:(d.map u8).Nodup:=by
  refine List.pairwise_map.2 (G.imp_of_mem (λ{p q} I N H e=>H (uvR (i p I) (i q N) e)))
 have L:(d.map u8).Perm (strKeys D):=by
  rw[j];refine perm_strKeys J (λp k=>by let⟨v,O⟩:=F p k;let⟨x,_,f,_⟩:=Maps.keyOf_str underlying9 O;exact⟨x,f⟩) r (λx=>?_);rw[<-j,C];constructor
  .intro f;obtain⟨z,g,rfl⟩:=Gj.1 f;exact⟨z,g,rfl⟩
  rintro⟨z,g,e⟩;injection e with e;exact Gj.2 ⟨z,g,e.symm⟩
 have Q:∀a b c:List UInt8,leB a b=true->leB b c=true->leB a c=true:=λa b c A B=>by simp only[leB,decide_eq_true_eq]at *;exact List.le_trans A B
 have P:∀a b:List UInt8,(leB a b||leB b a)=true:=λa b=>by simp only[leB,Pl,decide_eq_true_eq];exact List.le_total a b
 have m:=((List.mergeSort_perm h leB).trans k).trans L.symm;have t:(d.map u8).map i8=d:=by
  rw[List.map_map]
  conv=>rhs;rw[<-List.map_id d]
  exact Vi (λz g=>Xo (i z g))
 have E:∀x∈h.mergeSort leB,u8 (i8 x)=x:=λx f=>by
  obtain⟨z,g,rfl⟩:=Gj.1 (m.mem_iff.1 f);rw[Xo (i z g)]
 refine⟨(h.mergeSort leB).map i8,?_,YL (List.pairwise_mergeSort Q P h) (m.nodup_iff.2 r),?_⟩
 .have:=m.map i8;rw[t]at this;exact this
 rw[List.map_map]
 conv=>lhs;rw[<-List.map_id (h.mergeSort leB)]
 exact Vi (λx f=>(E x f).symm)
def unY{w b d}{g:List Int->Nat}(h:zU w b d g):Cs 145 #[.map (some b)] w λe w'=>e=Rt (.map (some w.heap.size))/\zU w' w.heap.size d g/\Kf w w':=by
 let⟨D,i,j⟩:=h.k;refine(AnyW.maps_Clone_owns Tryz.clone67 9 _ b _ D w i).mono ?_;rintro e w' ⟨rfl,m,_,l⟩;exact⟨rfl,⟨⟨D,m,j⟩,h.h,h.f,h.c,h.nd⟩,Below.cD l⟩
def uk2{w b r}{g:List Int->Nat}(h:zU w b r g) :
  Cs 146 #[.func (.func 197) #[] #[.pointer (Sm w.heap.size 0)]] (w.alloc (Oc #[.map (some b)] 82)) λe w'=>∃a c ls,e=Rt (Sl a ls.length c)/\ls.Perm r/\Fg ls/\Kf w w'/\∀k z,ls[k]?=some z->∃d,a=some (Ad d 0)/\zF w w' d/\w'.cell? (Ad d k)=some (.string (str z.length (lf z))):=by
 let⟨D,l,m,y,F⟩:=h.k;have I:=h.c;refine(callsIn_wide.1 (Tryz.fF b _ D _ w l (by rw[m];unfold maxLen;omega) (by rw[m];omega))).mono ?_;rintro e w' ⟨v,u,rfl,C,q,J,A⟩;let⟨ls,s,t,i⟩:=unX l y h.h h.nd C;have i:=i;rw[i]at q;have p:ls.length=u.length:=by
  have:=Bj List.length i;rw[List.length_mergeSort,Bl]at this;omega
 have L:(w.alloc (Oc #[.map (some b)] 82)).heap.size=w.heap.size+1:=sM;have o:=zY.c (Below.cD A);obtain⟨_,⟨rfl,B⟩|⟨d,cap,x,rfl,G,n,_,_,_,E⟩⟩:=q
 .refine⟨none,0,ls,by rw[p,B],s,t,o,λk z f=>?_⟩;have:=(Bz.1 f).1;omega
 refine⟨some (Ad d 0),cap,ls,by rw[p],s,t,o,λk z f=>⟨d,rfl,⟨oM,(Gw.1 n).1⟩,?_⟩⟩;have H:=(Bz.1 f).1;have e:x[k]?=some (.string (str z.length (lf z))):=by
  rw[<-Array.getElem?_toList,<-List.getElem?_take_of_lt (j:=u.length*1) oM,E,Ev,Ev,f];show some (encStr (u8 z))=_;rw[YJ]
 simp only[World.cell?,n];exact e
end
section
open M (OpD ug Gr)
def Xk(th:List zI):Prop:=∀t∈th,zW t.nm/\t.nm.length<=1000000
def Kv(a:List LI)(th:List zI):List LI:=th.foldl (λa t=>jG a t.nm) a
def unT a th t:Kv a (th++[t])=jG (Kv a th) t.nm:=by
 unfold Kv;rw[List.foldl_append];rfl
def uqy a z:(jG a z).length<=a.length+1:=by
 unfold jG;split
 .omega
 rw[zJ];exact zD
def JM:∀(th:List zI) (a:List LI),(Kv a th).length<=a.length+th.length
 |[],a=>zD
 |t::r,a=>by
  have b:=JM r (jG a t.nm);have c:=uqy a t.nm;show(Kv (jG a t.nm) r).length<=_;rw[Db];omega
def XS:∀{th:List zI} {a:List LI} {z:LI},z∈Kv a th↔z∈a\/∃t∈th,t.nm=z
 |[],a,z=>⟨λh=>.inl h,λh=>h.elim id (λ⟨t,h,_⟩=>by cases h)⟩
 |t::r,a,z=>by
  show z∈Kv (jG a t.nm) r↔_;rw[XS,Cv];constructor
  .rintro ((h|h)|⟨b,h,e⟩)
   .exact .inl h
   .exact .inr ⟨t,Qy ..,h.symm⟩
   exact .inr ⟨b,Ta _ h,e⟩
  rintro (h|⟨b,h,e⟩)
  .exact .inl (.inl h)
  rcases Dm.1 h with q|q
  .exact .inl (.inr (by rw[<-e,q]))
  exact .inr ⟨b,q,e⟩
def Xl:∀{ls:List LI} {i:Nat} {z:LI},ls.Nodup->ls[i]?=some z->Cg ls z=i
 |[],i,z,_,h=>by simp at h
 |x::r,0,z,_,h=>by
  simp at h;subst h;simp[Cg,List.idxOf_cons]
 |x::r,i+1,z,hn,h=>by
  simp at h;let⟨b,c⟩:=List.nodup_cons.1 hn;have a:(x==z)=false:=by
   simp;intro e;exact b (by rw[e];exact Cn h)
  have:=Xl c h;unfold Cg at this ⊢;rw[List.idxOf_cons,a,cond_false,this]
def uqz{th:List zI}{k:Nat}{t:zI}(h:th[k]?=some t):th.take (k+1)=th.take k++[t]:=by
 rw[Jl,h];rfl
def XT(w:Wl)(v:Vl)(th:List zI):Prop:=∃a b,v=Sl a th.length b/\∀k t,th[k]?=some t->∃g sa sn sc,a=some (Ad g 0)/\g<w.heap.size/\∀j,j<4->w.cell? (Ad g (k*4+j))=(Sj t (Sl sa sn sc))[j]?
def Dx.a{Q w v th}(h:Dx Q w v th)(m:∀b,Q b->b<w.heap.size):XT w v th:=by
 obtain⟨cs,c,d⟩:=h;obtain⟨p,q,rfl⟩:=uj c;refine⟨p,q,rfl,λk t i=>?_⟩;let⟨g,e,o,n⟩:=JK (w':=w) c d.at.1 (Bz.1 i).1;let⟨sa,sn,sc,l⟩:=d.at.2 i;exact⟨g,sa,sn,sc,e,m g o,λj f=>(n j f).trans (l j f)⟩
def ui9{w W W' b}(a:zA (λx=>x=b) w W)(c:W.grownBy W' (some b)):zA (λx=>x=b) w W' :=
 ⟨c.os.trans a.os,c.tape.trans a.g,c.output.trans a.f,zP a.l c.size,λx h e=>(c.block x (Ba h a.l) (λq=>e (Qu q))).trans (a.d x h e)⟩
def XU(a:List LI)(th:List zI)(w:Wl)(v:Vl)(wr:Wl):Prop :=
 ∃k:Nat,k<=th.length/\v=Iv (k:Nat)/\(∃g,zU wr w.heap.size (Kv a (th.take k)) g)/\Kf w wr
def XV(b:Nat)(ls:List LI)(w w0:Wl)(v:Vl)(wr:Wl):Prop :=
 ∃k:Nat,k<=ls.length/\v=Iv (k:Nat)/\(∃g,zU wr b ls g/\∀i z,i<k->ls[i]?=some z->g z=i)/\Kf w wr/\zA (λx=>x=b) w0 wr
section
variable {K:RK} {z:RZ} {W:Wl} {qs:List Rl} {P:Ew} {rb b2:Nat} {v8:Vl} {ks:List LI} {g0:List Int->Nat} {th:List zI}
def uhs(hM:zU W b2 ks g0)(c8:W.cell? (Ad rb 8)=some v8)(L:XT W v8 th)(C:Xk th)(hl:ks.length+th.length+1<=1000000)
  (a0:∀b ls W',W.heap.size<=b->zU W' b ls (Cg ls)->Fg ls->(∀z,z∈ls↔z∈ks\/∃t∈th,t.nm=z)->Kf W W'->P (Rt (.map (some b))) W'):Cs 91 #[rp rb,.map (some b2)] W P:=by
 obtain⟨ta,tc,rfl,L⟩:=L;have HM:=ua hM;have HT:=ua L;have HQ:=ua C;have NX:=ua a0;have a4:th.length<=1000000:=oM;have Y:=ua hl;have ay:=ud c8;go_enter func91,ntmps91;go_wp2_with fail;refine(unY HM).mono ?_;rintro e W1 ⟨rfl,ao,ab⟩;have aj:=ua ao;have ah:=ua ab;have d8:=(ab.p (p:=(Ad rb 8)) ay (λz=>z)).trans c8;go_wp2;go_loopw [17] (XU ks th W) (λv _=>th.length-(intOf v).toNat)
 .exact⟨0,zK,rfl,⟨g0,aj⟩,ah⟩
 obtain⟨m,hm,rfl,⟨A,ap⟩,J⟩:=hrel;have S:=ua J;have Z:=ua ap;by_cases ae:m<th.length
 .obtain⟨q,C⟩:∃q,th[m]?=some q:=⟨_,Bb ae⟩;obtain⟨g,sa,sn,sc,rfl,hg,hc⟩:=HT m q C;let⟨y0,y1,y2,y3⟩:=BE (w':=wr) hc (J.d g hg (λe=>e));have a2:g<wr.heap.size:=oH J.l;have hlt':(m:Int)<(th.length:Int):=oM;have w:=ua (HQ q (Cn C));let⟨sz,af⟩:=nm (str q.nm.length (lf q.nm));let⟨kd,ax⟩:=nm (kk q.e);have al:=ua af;rw[af]at y2;rw[ax]at y0;have F:Hid ((Kv ks (th.take m)).length+1<=1000000):=(by
   have j:=JM (th.take m) ks;have s:=Y;rw[Fw]at j;show _<=_;omega)
  generalize N:wr.alloc (Oc #[Bv kd,Iv (q.f:Nat),.string sz,Sl sa sn sc] 76)=X;let⟨q0,p0,l0⟩:=(N▸um wr #[Bv kd,Iv (q.f:Nat),.string sz,Sl sa sn sc] 76:zG X wr.heap.size _).x;have MX:=ua (N▸Z.a _:zU X W.heap.size (Kv ks (th.take m)) A);have H:Hid (∀W',zU W' W.heap.size (jG (Kv ks (th.take m)) q.nm) (Kk A q.nm 0)->X.grownBy W' (some W.heap.size)->XU ks th W (Iv ((m:Int)+1)) W'):=λW' j s =>
   ⟨m+1,ae,sM,⟨Kk A q.nm 0,by rw[uqz C,unT];exact j⟩,JL (S.c (N▸zY)) s zD⟩
  go_wp2_with (at_mapUpdate;refine DA _ rfl _ _ _ rfl _ (Kv ks (th.take m)) A q.nm 0 rfl MX (by rw[al.o];rfl) rfl w.1 w.2 F oM ?_;intro W' B k;have G:=ua (H W' B k);clear B k);go_roundw;all_goals first
   |exact G
   |(simp[intOf];omega)
 obtain rfl:m=th.length:=oM;have o:=Z;rw[Pa]at o;have o:=ua o;obtain⟨V,hV⟩:∃x,x=wr:=⟨_,rfl⟩;subst hV;go_wp2_with fail;refine(callsIn_wide.1 (Tryz.fE (some W.heap.size) V)).mono ?_;rintro e W3 ⟨rfl,az⟩;obtain rfl:=az;go_wp2_with fail;refine(uk2 o).mono ?_;rintro e W4 ⟨sa,sc,ls,rfl,Q,hA,ac,au⟩;have HP:=ua Q;have HA:=ua hA;have ai:=ua (S.c ac);have HC:=ua au;have aa:=ua ((o.on (ac.d _ o.lt (λz=>z))).p Q.symm);have a5:=o.lt;have a3:=aa.c;have F:Hid (ls.length+1<=1000000):=(by
  have j:=Q.length_eq;have s:=JM th ks;have h3:=Y;show _<=_;omega)
 go_wp2;go_loopw [29] (XV W.heap.size ls W W4) (λv _=>ls.length-(intOf v).toNat)
 .exact⟨0,zK,rfl,⟨A,aa,λi z h=>aB h oM⟩,ai,Cc⟩
 obtain⟨n,hn,rfl,⟨I,aq,aw⟩,am,an⟩:=hrel;have r:=ua aq;have R:=ua aw;have T:=ua am;have U:=ua an;by_cases ad:n<ls.length
 .obtain⟨z,u⟩:∃z,ls[n]?=some z:=⟨_,Bb ad⟩;obtain⟨g',rfl,k,av⟩:=HC n z u;have y0:=(U.p (p:=(Ad g' n)) k.2 (by show ¬g'=W.heap.size;have:=k.1;omega)).trans av;have hln':(n:Int)<(ls.length:Int):=oM;have O:=Cn u;have w:Hid (zW z/\z.length<=1000000):=⟨r.h z O,r.f z O⟩;have ak:Hid (n<=1000000):=(by show _<=_;omega);have H:Hid (∀W',zU W' W.heap.size (jG ls z) (Kk I z n)->wr.grownBy W' (some W.heap.size)->XV W.heap.size ls W W4 (Iv ((n:Int)+1)) W'):=λW' j s=>(by
   unfold jG at j;rw[Zp O]at j;refine⟨n+1,ad,sM,⟨Kk I z n,j,λi y D E=>?_⟩,JL T s zD,ui9 U s⟩;unfold Kk;by_cases e:y=z
   .rw[Zp e,<-Xl r.o.nd u,<-Xl r.o.nd E,e]
   rw[Zn e];refine R i y ?_ E;have:i≠n:=λq=>e (by rw[q,u]at E;exact(Qu E).symm);omega)
  go_wp2_with (at_mapUpdate;refine DA _ rfl _ _ _ rfl _ ls I z n rfl r rfl rfl w.1 w.2 F ak ?_;intro W' B k;have G:=ua (H W' B k);clear B k);go_roundw;all_goals first
   |exact G
   |(simp[intOf];omega)
 have a1:¬((n:Int)<(ls.length:Int)):=oM;have ag:=ua (NX W.heap.size ls wr zD (r.e (λz u=>by
  let⟨i,D⟩:=List.getElem?_of_mem u;rw[Xl r.o.nd D];exact R i z (oH ((Bz.1 D).1)) D)) HA (λz=>(HP.mem_iff).trans XS) T)
 go_wp2;exact ag
def jJ(a:List LI):List zI->Option Nat
 |[]=>none
 |t::r=>if t.nm∈a then jJ a r else some t.f
def us5{a:List LI}{l:List zI}{k:Nat}{t:zI}(h:l[k]?=some t):jJ a (l.drop k)=if t.nm∈a then jJ a (l.drop (k+1)) else some t.f:=by
 let⟨b,e⟩:=Bz.1 h;rw[Tb b,e,jJ]
def XW(a:List LI)(rf:List zI)(W1:Wl)(v:Vl)(wr:Wl):Prop :=
 ∃k:Nat,k<=rf.length/\v=Iv (k:Nat)/\jJ a rf=jJ a (rf.drop k)/\Kf W1 wr
def RK.DS.kp{W':Wl}(s:K.DS z qs W)(k:Kf W W'):K.DS z qs W' :=
 ⟨s.st.kp k,let⟨cs,h1,h2⟩:=s.g;⟨cs,h1.on (λb q=>k.d b (s.st.d b q).1 (λe=>e)),h2.mv (Cu.d (k.h (λ_ q=>q.elim)))⟩,s.rf,s.th,s.c⟩
def RK.Fn(a:List Rl)(W:Wl)(P:Ew):Prop :=
 ∀b1 b ls W',zU W' b1 (uq a) (Cg (uq a))->zU W' b ls (Cg ls)->Fg ls->(∀z,z∈ls↔z∈yG a\/∃t∈jA a,t.nm=z)->Kf W W'->P (Rt (.agg #[.map (some b1),.map (some b)])) W'
def uja(s:K.DS z qs W)(o:BF qs)(ak:Xk (xS qs))(al:Xk (jA qs))(u:qs.length+(jA qs).length+1<=1000000)(hd:jk [] qs=none)(hr:jJ (uq qs) (xS qs)=none)(aj:uq qs≠[])(an:RK.Fn qs W P):Cs 35 #[rp K.rb] W P:=by
 have NX:=ua an;have ab:=ua ak;have ae:=ua hr;have Z:=ua aj;have ac:=ua al;have aw:=s.st.sc.e.x.2.2;have ay:=s.st.tn;have ax:(xS qs).length<=1000000:=by have:=s.st.C;rw[s.rf]at this;omega
 generalize E:W.alloc (Oc #[.map none,.map none] 84)=i;have J:Kf W i:=E▸zY;have y:Hid (zG i W.heap.size #[.map none,.map none]):=E▸Eb W;have K0:=ua J;have S0:=ua (s.kp J);have h0:=y.x.2.2;go_enter func35,ntmps35;go_wp2_with fail;refine ukX S0 o hd λW1 p mp=>?_;have D:=ua mp;have n:=ua (S0.kp p);have K1:=ua (K0.c p);let⟨ra,rc,I,H⟩:=n.st.j.a (λb q=>(n.st.a b q).1);rw[n.o.rf]at I H;have c7:=(n.st.sc.e.x.1 7).trans (Bj some I);have ad:=ua H;have Q:=ua (y.on p.q);have ao:=p.l;go_wp2;go_loopw [19] (XW (uq qs) (xS qs) W1) (λv _=>(xS qs).length-(intOf v).toNat)
 .exact⟨0,zK,rfl,rfl,Cc⟩
 obtain⟨m,hm,rfl,hE,h⟩:=hrel;have U:=ua hE;have V:=ua h;have k:=ua (λc=>(D c).on (h.d _ (D c).lt (λe=>e)));by_cases F:m<(xS qs).length
 .obtain⟨q,o⟩:∃q,(xS qs)[m]?=some q:=⟨_,Bb F⟩;obtain⟨g,sa,sn,sc,rfl,hg,hc⟩:=ad m q o;let⟨y0,y1,y2,y3⟩:=BE (w':=wr) hc (h.d g hg (λe=>e));have aq:g<wr.heap.size:=oH h.l;have hlt':(m:Int)<((xS qs).length:Int):=oM;have B:=ua (ab q (Cn o));have A:=ua (U.trans (us5 o));let⟨O,u⟩:=nm (str q.nm.length (lf q.nm));let⟨kd,ai⟩:=nm (kk q.e);have af:=ua u;rw[u]at y2;rw[ai]at y0;generalize r:wr.alloc (Oc #[Bv kd,Iv (q.f:Nat),.string O,Sl sa sn sc] 76)=X;let⟨q0,p0,l0⟩:=(r▸um wr #[Bv kd,Iv (q.f:Nat),.string O,Sl sa sn sc] 76:zG X wr.heap.size _).x;have MX:=ua (r▸(k false).a _:zU X i.heap.size (uq qs) (Cg (uq qs)));have KX:=ua (V.c (r▸zY:Kf wr X));by_cases t:q.nm∈uq qs
  .have T:=ua (Ke t);have ag:Hid (XW (uq qs) (xS qs) W1 (Iv ((m:Int)+1)) X):=⟨m+1,F,sM,A.trans (Zp t),KX⟩;go_wp2_with (at_lookup;refine LP _ rfl _ _ rfl _ (uq qs) _ q.nm rfl MX (by rw[af.o];rfl) B.1 B.2 true T ?_);go_roundw;all_goals first
    |exact ag
    |(simp[intOf];omega)
  exact nomatch ae.o.symm.trans (A.trans (Zn t))
 obtain rfl:m=(xS qs).length:=oM;have SW:=ua (n.kp h);have KW:=ua (K1.c h);let⟨q1,p1,l1⟩:=SW.st.sc.e.x;have R:=ua (Q.on h.q);have az:=h.l;let⟨N,G⟩:=nm (uq qs).length;have av:N≠0:=λq=>Z (Ic (G.trans q));have hnil':((N:Int)==0)=false:=sO;have aa:=ua G;have au:(yG qs).length<=qs.length:=by have:=XP true qs qs.length;rw[Pa]at this;exact this
 have Y:=ua (show(yG qs).length+(jA qs).length+1<=1000000 by omega);go_wp2_with (at_len;refine CZ _ rfl _ rfl _ (uq qs) _ rfl (k false) ?_;rw[aa.o]);refine uhs (k true) (SW.st.sc.e.x.1 8) (by have:=SW.st.m.a (λb q=>(SW.st.b b q).1);rw[SW.o.th]at this;exact this) ac Y (λb ls W3 hb L ah am w=>?_);have ap:=L.lt;let⟨q2,p2,l2⟩:=(R.on w.q).x;have S:=ua (NX i.heap.size b ls ((W3.setCell (Ad W.heap.size 0) (.map (some i.heap.size))).setCell (Ad W.heap.size 1) (.map (some b)))
  (((k false).on (w.d _ (k false).lt (λe=>e))).on ((Bn (by show i.heap.size≠W.heap.size;omega)).trans (Bn (by show i.heap.size≠W.heap.size;omega))))
  (L.on ((Bn (by show b≠W.heap.size;omega)).trans (Bn (by show b≠W.heap.size;omega)))) ah am (xT (xT (KW.c w) zD) zD))
 go_wp2;exact zL (by simp[results,f35,go_sem, *]) rfl S
end
end
section
open M (OpD ug Gr)
abbrev Om(T:TypeId)(zs:Av)(ty:TypeId)(v:Vl)(w:Wl):Prop:=(Instr.typeAssert (.iface ty v) 168 T true).run prog w=if ty=T then .ok (.tuple #[v,Bt]) w else .ok (.tuple #[.agg zs,Bf]) w
def Si{T ty:TypeId}{fs}{a:Av}{v:Vl}{w:Wl}(b:prog.underlying T=some (.struct fs))(z:(zeroValue T).run prog w=.ok (.agg a) w):Om T a ty v w:=by
 by_cases h:ty=T<;>simp[Om,Instr.typeAssert,run_underlying b,h,z]
def uxd ty v w:Om 234 #[nS] ty v w:=Si underlying234 rR
def uxe ty v w:Om 236 #[.string ⟨#[]⟩] ty v w:=Si underlying236 rR
def uxf ty v w:Om 238 #[.string ⟨#[]⟩] ty v w:=Si underlying238 rR
def uxg ty v w:Om 240 #[.nilIface,.nilIface] ty v w:=Si underlying240 rR
def uxh ty v w:Om 241 #[.nilIface,.nilIface] ty v w:=Si underlying241 rR
def uxi ty v w:Om 243 #[.nilIface] ty v w:=Si underlying243 rR
def uxj ty v w:Om 244 #[.nilIface] ty v w:=Si underlying244 rR
abbrev Lo(w:Wl):Nat->Prop:=λb=>b<w.heap.size
def Li(w:Wl):Nat->Prop:=λb=>b<w.heap.size/\∃o v,w.cell? (Ad b o)=some (Iv v)
def us1{Q w a n S}(h:Ints Q .i64 w a n S):Ints (Li w) .i64 w a n S:=by
 rcases h with h|⟨b,off,e,d,h⟩
 .exact .inl h
 by_cases c:n=0
 .exact .inl c
 have:=h 0 oM;exact .inr ⟨b,off,e,⟨ud this,_,_,this⟩,h⟩
inductive TrV(w:World)(rs ls:List (List Int)):Value->List OpD->Prop
 |set (z:LI) (a:Oa) (c:Nat):Ints (Li w) .i64 w a z.length (lf z)->TrV w rs ls (.iface 234 (.agg #[Sl a z.length c])) (uL z)
 |ref (z:LI):z∈rs->TrV w rs ls (.iface 236 (.agg #[.string (str z.length (lf z))])) (uv 2 (vN z rs 0))
 |thr (z:LI):z∈ls->TrV w rs ls (.iface 238 (.agg #[.string (str z.length (lf z))])) (uv 3 (vN z ls 0))
 |seq (t u t' u') (D D':List OpD):TrV w rs ls (.iface t u) D->TrV w rs ls (.iface t' u') D'->TrV w rs ls (.iface 240 (.agg #[.iface t u,.iface t' u'])) (uM 4 D D')
 |alt (t u t' u') (D D':List OpD):TrV w rs ls (.iface t u) D->TrV w rs ls (.iface t' u') D'->TrV w rs ls (.iface 241 (.agg #[.iface t u,.iface t' u'])) (uM 5 D D')
 |star (t u) (D:List OpD):TrV w rs ls (.iface t u) D->TrV w rs ls (.iface 243 (.agg #[.iface t u])) (Bq 6 D)
 |not (t u) (D:List OpD):TrV w rs ls (.iface t u) D->TrV w rs ls (.iface 244 (.agg #[.iface t u])) (Bq 7 D)
 |emp:TrV w rs ls Qk (uv 0 0)
def ui3 z x y:yE ((z++[x])++[y])=uM 4 (yE (z++[x])) (uL (vB y)):=by
 cases z with
 |nil=>rfl
 |cons c r =>
  simp only[Fc,yE];rw[List.foldl_append];simp[uM]
section
variable {X:Np} {w:Wl} {rs ls:List LI} {v:Vl}
def En.b{z:LI}(h:En X w z v):TrV w rs ls v (uL z):=let⟨a,c,e,h⟩:=h;e▸.set z a c (us1 h)
def Di.b:∀(z:LI) {v:Vl},Di X w z v->TrV w rs ls v (yE z.reverse)
 |[],v,h=>(show v=Qk from h)▸.emp
 |[x],v,h=>En.b h
 |y::x::r,v,⟨u,u',e,h4,h5⟩=>by
  have d:=Di.b (x::r) h4;have f:TrV w rs ls u' _:=h5.b;obtain⟨t,c,rfl⟩:=h4.a;obtain⟨_,_,rfl,_⟩:=h5;rw[List.reverse_cons]at d;rw[List.reverse_cons,List.reverse_cons,ui3,e];exact .seq _ _ _ _ _ _ d f
def Gc.b{e:PE}(h:Gc X w e v)(f:∀t∈e.b,t.nm∈rs)(g:∀t∈e.a,t.nm∈ls):TrV w rs ls v (e.e rs ls):=by
 induction e generalizing v with
 |ref t=>exact(show v=_ from h)▸.ref t.nm (f t (by simp[PE.b]))
 |thr c t=>exact(show v=_ from h)▸.thr t.nm (g t (by simp[PE.a]))
 |str t=>have:=Di.b (rs:=rs) (ls:=ls) _ h;rwa [List.reverse_reverse]at this
 |cls|dot=>exact En.b h
 |grp _ _ _ d=>exact d h f g
 |emp=>exact(show v=Qk from h)▸.emp
 |star _ _ d|not _ _ d|amp _ _ d|opt _ _ d =>
  obtain⟨u,rfl,h⟩:=h;obtain⟨t,c,rfl⟩:=h.a;have:=d h f g;first|exact .star _ _ _ this|exact .not _ _ _ this|exact .not _ _ _ (.not _ _ _ this)|exact .alt _ _ _ _ _ _ this .emp
 |seq a b i1 i2|alt a _ b i1 i2 =>
  obtain⟨u,l,rfl,i,j⟩:=h;obtain⟨t,c,rfl⟩:=i.a;obtain⟨k,c',rfl⟩:=j.a;have A:=i1 i (λt q=>f t (by simp[PE.b,q])) (λt q=>g t (by simp[PE.a,q]));have B:=i2 j (λt q=>f t (by simp[PE.b,q])) (λt q=>g t (by simp[PE.a,q]));first|exact .seq _ _ _ _ _ _ A B|exact .alt _ _ _ _ _ _ A B
end
def Mu(w:Wl):List OpD->List Value->Prop
 |[],cs=>cs = []
 |d::r,cs=>∃a c b,cs = [Iv d.e,.slice a d.sl c,Iv d.f]++b/\Ints (Li w) .i64 w a d.sl d.set/\Mu w r b
def Mu.d{w d a c}(h:Ints (Li w) .i64 w a d.sl d.set):∀{b:List OpD} {cs:List Value},Mu w b cs->Mu w (b++[d]) (cs++[Iv d.e,Sl a d.sl c,Iv d.f])
 |[],_,e=>⟨a,c,[],by rw[show _ = [] from e];simp,h,rfl⟩
 |_::_,_,⟨a',c',cs',e,h1,h2⟩=>⟨a',c',cs'++[Iv d.e,.slice a d.sl c,Iv d.f],by rw[e];exact Ce _ _ _,h1,Mu.d h h2⟩
structure Ln(w1:Wl)(O:Np)(W:Wl)(v:Vl)(os:List OpD):Prop where
 k:∃cs,zB O W v 3 os.length cs/\Mu w1 os cs
 o:∀b,O b->w1.heap.size<=b/\b<W.heap.size
section
variable {w1 W W':Wl} {O O':Np} {v:Vl} {os:List OpD} {K:Oa} {c:Nat} {P:Ew} {b1 b2:Nat} {rs ls:List LI}
def Ln.kp(h:Ln w1 O W v os)(k:Kf W W'):Ln w1 O W' v os :=
 ⟨let⟨cs,h1,h2⟩:=h.k;⟨cs,h1.on (λb q=>k.d b (h.o b q).2 (λe=>e)),h2⟩,λb q=>⟨(h.o b q).1,Ba (h.o b q).2 k.l⟩⟩
def Ln.app(h:Ln w1 O W v os)(d:OpD)(a:Oa)(c:Nat)(r:Ints (Li w1) .i64 w1 a d.sl d.set)(m:os.length<=1000000)(s:w1.heap.size<=W.heap.size) :
  ∃g c' W' i,(Builtin.append_ #[67,67] 67 #[v,Sl (Sm W.heap.size 0) 1 1]).run prog (W.alloc (Oc #[Iv d.e,Sl a d.sl c,Iv d.f] 185))=.ok (Sl g (os++[d]).length c') W'/\Ln w1 i W' (Sl g (os++[d]).length c') (os++[d])/\Cu O W i W':=by
 let⟨cs,j,l⟩:=h.k;let⟨g,c',W',p,n,k⟩:=Uq (o:=.cells #[Iv d.e,Sl a d.sl c,Iv d.f] 185) (news:=[Iv d.e,Sl a d.sl c,Iv d.f]) Re j (λb q=>(h.o b q).2) (qg underlying67 rfl rfl rfl) m oM;refine⟨g,c',W',λb=>(O b\/W.heap.size<=b)/\b<W'.heap.size,?_,⟨⟨cs++[Iv d.e,Sl a d.sl c,Iv d.f],?_,Mu.d (c:=c) r l⟩,λb q=>⟨q.1.elim (λq=>(h.o b q).1) (zP s),q.2⟩⟩,⟨k,λb q=>q.1⟩⟩
 .rw[zJ];exact p
 rw[zJ];exact n
def AO(w1:Wl)(b1 f:Nat)(v:Vl)(D:List OpD):Prop:=∀(W:Wl) (e:Vl) (b:List OpD) (O:Np) (P:Ew),Kf w1 W->Ln w1 O W e b->b.length+D.length<=1000000 ->
 (∀K c W' d,Ln w1 d W' (Sl K (b++D).length c) (b++D)->Cu O W d W'->P (Rt (Sl K (b++D).length c)) W')->Cs 89 #[.agg #[.map (some b1),.map (some f)],e,v] W P
def XE args w:(callFunc 89 args).run prog w=.ok (.enter 89 args) w:=by simp[callFunc,func89,f89,go_sem]
def Cu.a(h:Cu O W O' W')(k:Kf w1 W)(d:∀b,O b->w1.heap.size<=b):Kf w1 W' :=
 ((⟨k,λb q=>.inr (d b q)⟩:Cu (λ_=>False) w1 O W).c h).kp
attribute [local go_sem] uxd uxe uxf uxg uxh uxi uxj
def uvH(z:LI)(a:Oa)(c:Nat)(h:Ints (Li w1) .i64 w1 a z.length (lf z)):AO w1 b1 b2 (.iface 234 (.agg #[Sl a z.length c])) (uL z):=by
 intro W H b O P y e v p;have t:=ua p;have m:b.length<=1000000:=oM;let⟨I,J,w⟩:=uj e.k.choose_spec.1;generalize f:(W.alloc (Oc #[.map (some b1),.map (some b2)] 84)).alloc (Oc #[Sl a z.length c] 234)=X;have g:Kf W X:=f▸zY.c zY;let⟨F,E,A⟩:=(f▸(um W _ 84).al _:zG X W.heap.size #[.map (some b1),.map (some b2)]).x;let⟨G,p1,B⟩:=(f▸uW (W.alloc (Oc #[.map (some b1),.map (some b2)] 84)) #[Sl a z.length c] 234 (W.heap.size+1) sM:zG X (W.heap.size+1) #[Sl a z.length c]).x;let⟨i,c',W',u,n,j,o⟩:=(e.kp g).app (Wj z) a c (h) m (y.c g).l;have r:Hid (P (Rt (Sl i (b++[Wj z]).length c')) W'):=t.o i c' W' u j ((Cu.d (g.h (λ_ q=>q.elim))).c o);have s:=ua n;subst w;clear p n j o e m v;generalize (b++[Wj z]).length=D at *;generalize b.length=C at *;go_enter func89,ntmps89;go_wp2_with (first
  |(at_builtin;refine Qi rfl _ _ rfl rfl rfl s.o ?_))
 exact r.o
def XF{T:TypeId}{k:Int}{n:Nat}(L:T=236/\k=2/\n=b1\/T=238/\k=3/\n=b2)(g:zU w1 n rs (Cg rs))(z:LI)(h:z∈rs):AO w1 b1 b2 (.iface T (.agg #[.string (str z.length (lf z))])) (uv k (vN z rs 0)):=by
 intro W R b O P B o N D;have H:=ua D;have y:b.length<=1000000:=oM;let⟨aa,ab,Q⟩:=uj o.k.choose_spec.1;let⟨t,s⟩:=nm (str z.length (lf z));have F:=ua s;rw[s];generalize p:(W.alloc (Oc #[.map (some b1),.map (some b2)] 84)).alloc (Oc #[.string t] T)=X;have i:Kf W X:=p▸zY.c zY;let⟨q0,Z,S⟩:=(p▸(um W _ 84).al _:zG X W.heap.size #[.map (some b1),.map (some b2)]).x;let⟨q1,p1,U⟩:=(p▸uW (W.alloc (Oc #[.map (some b1),.map (some b2)] 84)) #[.string t] T (W.heap.size+1) sM:zG X (W.heap.size+1) #[.string t]).x;let⟨m,c',W',I,A,w,C⟩:=(o.kp i).app (Cq k (vN z rs 0)) none 0 (.inl rfl) y (B.c i).l;have E:Hid (P (Rt (Sl m (b++[Cq k (vN z rs 0)]).length c')) W'):=H.o m c' W' I w ((Cu.d (i.h (λ_ q=>q.elim))).c C);have j:=ua A;have G:=ua (g.on ((B.c i).d _ g.lt (λe=>e)));have u:Hid (((Rg rs (Cg rs) z:Nat):Int)=vN z rs 0):=(by show _=_;rw[XO h,Rg,Zp h,Bp]);have v:=ua (show zW z/\z.length<=1000000 from ⟨g.h z h,g.f z h⟩);let⟨J,r⟩:=nm (vN z rs 0);have j:Hid ((Builtin.append_ #[67,67] 67 #[R,Sl (Sm X.heap.size 0) 1 1]).run prog (X.alloc (Oc #[Iv k,nS,Iv J] 185))=.ok (Sl m (b++[Cq k (vN z rs 0)]).length c') W'):=(by rw[<-r];exact j.o);rw[r]at u;clear r s;subst Q;clear D A w C o y N;generalize (b++[Cq k (vN z rs 0)]).length=Y at *;generalize b.length=V at *;rcases L with⟨rfl,rfl,rfl⟩|⟨rfl,rfl,rfl⟩;all_goals
  go_enter func89,ntmps89;go_wp2_with (first
   |(at_builtin;refine Qi rfl _ _ rfl rfl rfl j.o ?_)
   |(at_lookup;refine LQ _ rfl _ _ rfl _ rs (Cg rs) z rfl G.o (by rw[F.o];rfl) v.o.1 v.o.2 ?_;rw[u.o]))
  exact E.o
def uvI  : AO w1 b1 b2 (Qk) (uv 0 0):=by
 intro W E b O P y e v p;have t:=ua p;have m:b.length<=1000000:=oM;let⟨F,G,w⟩:=uj e.k.choose_spec.1;generalize j:(W.alloc (Oc #[.map (some b1),.map (some b2)] 84))=X;have f:Kf W X:=j▸zY;let⟨D,C,z⟩:=(j▸um W _ 84:zG X W.heap.size #[.map (some b1),.map (some b2)]).x;let⟨g,c',W',u,n,i,o⟩:=(e.kp f).app (Cq 0 0) none 0 (.inl rfl) m (y.c f).l;have r:Hid (P (Rt (Sl g (b++[Cq 0 0]).length c')) W'):=t.o g c' W' u i ((Cu.d (f.h (λ_ q=>q.elim))).c o);have s:=ua n;subst w;clear p n i o e m v;generalize (b++[Cq 0 0]).length=B at *;generalize b.length=A at *;go_enter func89,ntmps89;go_wp2_with (first
  |(at_builtin;refine Qi rfl _ _ rfl rfl rfl s.o ?_))
 exact r.o
def XG{t T:TypeId}{k:Int}{u:Vl}{D:List OpD}(Q:T=243/\k=6\/T=244/\k=7)(H:AO w1 b1 b2 (.iface t u) D):AO w1 b1 b2 (.iface T (.agg #[.iface t u])) (Bq k D):=by
 intro W S e O P m f y B;have I:=ua B;have j:e.length+D.length<=1000000:=by simp[Bq]at y;omega
 let⟨aa,ab,R⟩:=uj f.k.choose_spec.1;generalize i:(W.alloc (Oc #[.map (some b1),.map (some b2)] 84)).alloc (Oc #[.iface t u] T)=X;have g:Kf W X:=i▸zY.c zY;let⟨q0,p0,Y⟩:=(i▸(um W _ 84).al _:zG X W.heap.size #[.map (some b1),.map (some b2)]).x;let⟨q1,p1,Z⟩:=(i▸uW (W.alloc (Oc #[.map (some b1),.map (some b2)] 84)) #[.iface t u] T (W.heap.size+1) sM:zG X (W.heap.size+1) #[.iface t u]).x;have r:=ua (λL=>H X S e O L (m.c g) (f.kp g) j);have E:=ua f.o;have s:=ua g;have G:=ua m;have C:=ua j;subst R;clear B f y j g m H;generalize e.length=n0 at r;rcases Q with⟨rfl,rfl⟩|⟨rfl,rfl⟩;all_goals
  go_enter func89,ntmps89;go_wp2_with fail;refine r.o _ λK c U V v n=>?_;obtain⟨N,c',W',J,z,w,A⟩:=v.app (Cq _ 0) none 0 (.inl rfl) (by rw[zJ];exact C.o) (n.a (G.o.c s.o) (λb q=>(E.o b q).1)).l;have p:=ua (I.o N c' W' J (by rw[Bq,<-Ce];exact w) (((Cu.d (s.o.h (λ_ q=>q.elim))).c n).c A));have F:=ua z;rw[Bq,<-Ce]at p;clear z w A v n;generalize ((e++D)++[Cq _ 0]).length=nn at *;generalize (e++D).length=n1 at *;go_wp2_with (at_builtin;refine Qi rfl _ _ rfl rfl rfl F.o ?_);exact p.o
def XH{t f T:TypeId}{k:Int}{u g:Vl}{D j:List OpD}(hT:T=240/\k=4\/T=241/\k=5)(H:AO w1 b1 b2 (.iface t u) D)(z:AO w1 b1 b2 (.iface f g) j):AO w1 b1 b2 (.iface T (.agg #[.iface t u,.iface f g])) (uM k D j):=by
 intro W v0 e O P w m Q aa;have NX:=ua aa;have R:e.length+D.length+j.length<=1000000:=by simp[uM]at Q;omega
 let⟨ad,ae,ac⟩:=uj m.k.choose_spec.1;generalize n:(W.alloc (Oc #[.map (some b1),.map (some b2)] 84)).alloc (Oc #[.iface t u,.iface f g] T)=X;have p:Kf W X:=n▸zY.c zY;have s:Hid (zG X W.heap.size #[.map (some b1),.map (some b2)]):=n▸(um W _ 84).al _;have v:Hid (zG X (W.heap.size+1) #[.iface t u,.iface f g]):=n▸uW (W.alloc (Oc #[.map (some b1),.map (some b2)] 84)) #[.iface t u,.iface f g] T (W.heap.size+1) sM;let⟨q0,p0,l0⟩:=s.o.x;let⟨q1,p1,l1⟩:=v.o.x;have B:=ua (λP'=>H X.drew v0 e O P' ((w.c p).c Cj) ((m.kp p).kp Cj) oM);have F:=ua m.o;have G:=ua (p.c Cj);have KW:=ua w;have C:=ua R;have HD:=ua z;subst ac;clear aa m Q R p w H z;generalize e.length=n0 at B;rcases hT with⟨rfl,rfl⟩|⟨rfl,rfl⟩;all_goals go_enter func89,ntmps89
 all_goals go_wp2_with fail
 all_goals clear n
 all_goals go_region_law (first
  |(refine uF XE rfl _ _ rfl (ys:=#[.agg #[.map (some b1),.map (some b2)],Sl ad n0 ae,.iface t u]) (by simp[Act.eval,Act.put]) (B.o _ λK c U O1 J r=>⟨_,rfl,?_⟩);have st:=λb (h:W.heap.size<=b) (hb:b<X.heap.size)=>r.kp.d b hb (λq=>oH ((F.o b q).2));let⟨q2,p2,l2⟩:=(s.o.a (st _ zD s.o.x.2.2)).x;let⟨q3,p3,l3⟩:=(v.o.a (st _ (Gx _) v.o.x.2.2)).x;have A:=ua J;have M1:=ua r;have Z:=ua (r.a (KW.o.c G.o) (λb q=>(F.o b q).1));clear J r st;generalize S:(e++D).length=n1 at *;have E:=ua S;clear S)
  |(refine uF XE rfl _ _ rfl (ys:=#[.agg #[.map (some b1),.map (some b2)],Sl K n1 c,.iface f g]) (by simp[Act.eval,Act.put]) (HD.o _ _ (e++D) O1 _ Z.o A.o (by rw[E.o];have:=C.o;have:=E.o;rw[zJ]at this;omega) λa2 c2 U2 O2 L m2=>⟨_,rfl,?_⟩);have H2:=ua L;have I:=ua m2;clear L m2;generalize V:((e++D)++j).length=n2 at *;have ab:=ua V;clear V q2 p2 l2 q3 p3 l3))
 all_goals (
  obtain⟨a',c',W',O',Y,N,m3⟩:=H2.o.app (Cq _ 0) none 0 (.inl rfl) (by have:=ab.o;have:=C.o;simp only[zJ]at *;omega) (I.o.a Z.o (λb q=>(A.o.o b q).1)).l;have y:=ua (NX.o a' c' W' O' (by rw[uM,<-Ce,<-Ce];exact N) ((((Cu.d (G.o.h (λ_ q=>q.elim))).c M1.o).c I.o).c m3));have HR:=ua Y;rw[uM,<-Ce,<-Ce]at y;clear Y N m3;generalize (((e++D)++j)++[Cq _ 0]).length=nn at *;go_wp2_with (at_builtin;refine Qi rfl _ _ rfl rfl rfl HR.o ?_);exact y.o)
def uvJ(f:zU w1 b1 rs (Cg rs))(g:zU w1 b2 ls (Cg ls)){D:List OpD}(h:TrV w1 rs ls v D):AO w1 b1 b2 v D:=by
 induction h with
 |set z K c h=>exact uvH z K c h
 |ref z h=>exact XF (.inl ⟨rfl,rfl,rfl⟩) f z h
 |thr z h=>exact XF (.inr ⟨rfl,rfl,rfl⟩) g z h
 |seq _ _ _ _ _ _ _ _ b d=>exact XH (.inl ⟨rfl,rfl⟩) b d
 |alt _ _ _ _ _ _ _ _ b d=>exact XH (.inr ⟨rfl,rfl⟩) b d
 |star _ _ _ _ e=>exact XG (.inl ⟨rfl,rfl⟩) e
 |not _ _ _ _ e=>exact XG (.inr ⟨rfl,rfl⟩) e
 |emp=>exact uvI
end
end
section
open M (OpD ug Gr)
def XX w{z}(h:zW z):∃nc W',(convert 9 22 (.string (str z.length (lf z)))).run prog w=.ok (Sl (Sm w.heap.size 0) z.length nc) W'/\Ints (λb=>b=w.heap.size) .u8 W' (Sm w.heap.size 0) z.length (lf z)/\Kf w W'/\W'.heap.size=w.heap.size+1:=by
 have e:=Vj (P:=prog) w 9 22 5 (str z.length (lf z)) underlying9 underlying22 underlying5;have d:=qo z.length (lf z);rw[d]at e;have g:=Vk w 5 (str z.length (lf z));refine⟨_,_,e,.inr ⟨w.heap.size,0,rfl,rfl,λj c=>?_⟩,⟨rfl,rfl,rfl,oM,λk f _=>Vm w 5 _ k f⟩,g⟩;rw[Bp,Lib.bytesWorld_cell w 5 _ j (by rw[d];exact c)];have a:(i8 (u8 z))[j]?=z[j]?:=by rw[Xo h]
 unfold i8 u8 at a;rw[Ev,Bb c]at a;have hj':j<(str z.length (lf z)).data.toList.length:=by rw[Ph];show j<(str z.length (lf z)).size;rw[d];exact c
 rw[Bb hj']at a;simp only[Option.map_some,Option.some.injEq]at a;rw[El,Bb hj'];simp only[Option.getD_some];rw[a,show lf z j=z[j] by unfold lf;rw[El,Bb c];rfl]
def XY{ops:Array Oper}{rest o a b w W' v r}(d:o.guard=none)x(e:o.op=.convert 9 22 x)(g:a.eval x=v)(f:(convert 9 22 v).run prog w=.ok r W')(k:wpList prog ops b rest (a.put o.dst r) W'):wpList prog ops b (o::rest) a w:=by
 refine wpList_plain d λK c=>?_;unfold Oper.wp execOp;simp only[e,Nl,Nm,Pf,g,f];exact c _ _ k
abbrev Ou(w0:Wl)(Z:Np)(W:Wl):Nat->Prop:=λb=>Out Z W b/\(w0.heap.size<=b\/Li w0 b)
structure NB(w0:Wl)(Z:Np)(W:Wl)(x:NL)(na:Oa)(ba:Oa)(bc:Nat):Prop where
 nm:Ints (Ou w0 Z W) .u8 W na x.nm.length (lf x.nm)
 bd:zM (Ou w0 Z W) W ba x.bd.length (df x.bd)
 r:x.bd.length<=bc
section
variable {Z Z' Q O:Np} {w1 W W':Wl} {x:NL} {na ba a:Oa} {bc n c:Nat} {os:List OpD}
def Ou.mv(m:Cu Z W Z' W'):∀b,Ou w1 Z W b->Ou w1 Z' W' b:=λb a=>⟨⟨Ba a.1.1 m.kp.l,λq=>(m.nw b q).elim a.1.2 (λq=>oH a.1.1)⟩,a.2⟩
def JN{B:Nat->OpD}(h:zM (Ou w1 Z W) W a n B)(m:Cu Z W Z' W'):zM (Ou w1 Z' W') W' a n B:=(h.on (λb c=>m.kp.d b c.1.1 c.1.2)).g (Ou.mv m)
def NB.mv(h:NB w1 Z W x na ba bc)(m:Cu Z W Z' W'):NB w1 Z' W' x na ba bc:=⟨(h.nm.on (λb a=>m.kp.d b a.1.1 a.1.2)).g (Ou.mv m),JN h.bd m,h.r⟩
def Mu.at{w}:∀{g:List OpD} {cs:List Value},Mu w g cs->cs.length=g.length*3/\∀{k:Nat} {d:OpD},g[k]?=some d->∃a c,Ints (Li w) .i64 w a d.sl d.set/\cs[k*3]?=some (Iv d.e)/\cs[k*3+1]?=some (Sl a d.sl c)/\cs[k*3+2]?=some (Iv d.f)
 |[],cs,h=>⟨by rw[show cs = [] from h];rfl,λb=>by simp at b⟩
 |y::r,_,⟨a,c,cs',rfl,h1,h2⟩=>by
  have i:=Mu.at h2;refine⟨by rw[zJ,i.1,Db];simp;omega,λ{k d} b=>?_⟩;cases k with
  |zero =>
   obtain rfl:y=d:=(by simpa using b);exact⟨a,c,h1,rfl,rfl,rfl⟩
  |succ k =>
   obtain⟨l,c',m,n,o,p⟩:=i.2 (k:=k) (by simpa using b);have e:∀j,([Iv y.e,Sl a y.sl c,Iv y.f]++cs')[(k+1)*3+j]?=cs'[k*3+j]?:=λj=>by
    rw[Fb sO];congr 1;simp;omega
   exact⟨l,c',m,(e 0).trans n,(e 1).trans o,(e 2).trans p⟩
def Ln.e(h:Ln w1 O W (Sl a n c) os)(k:Kf w1 W)(u:∀b,O b->Q b)(t:∀b,Li w1 b->Q b):zM Q W a os.length (df os)/\os.length<=c:=by
 let⟨cs,q,r⟩:=h.k;rcases q with⟨e,f,_⟩|⟨g,cap,e,y,z,s,j,A⟩
 .exact⟨.inl f,by injection e with _ _ e;omega⟩
 injection e with f e2 e3;subst f e3;refine⟨.inr ⟨g,0,rfl,u g y,λi x=>?_⟩,s⟩;have w:os[i]?=some (df os i):=by unfold df;rw[El,Bb x];rfl
 let⟨l,c',b1,m,o,p⟩:=r.at.2 w;rw[Bp];exact⟨(j _ oM).trans m,⟨l,c',(j _ oM).trans o,(b1.on (λb v=>k.d b v.1 (λe=>e))).g t⟩,(j _ oM).trans p⟩
end
def ZB(a:Wl)(A:Np):Nat->Prop:=λb=>(a.heap.size<=b/\b<a.heap.size+5)\/A b
structure Oo(W0:Wl)(Z:Np)(W:Wl)(c:Av)(ls:List NL):Prop where
 sz:c.size=ls.length*3
 f:∀i x,ls[i]?=some x->∃na nc ba bc,c[i*3]?=some (Sl na x.nm.length nc)/\c[i*3+1]?=some (.bool x.j)/\c[i*3+2]?=some (Sl ba x.bd.length bc)/\NB W0 Z W x na ba bc
def Jg(a:Wl)(Z:Np)(W:Wl):List NL->List Value->Prop
 |[],cs=>cs = []
 |x::r,cs=>∃na nc ba bc b,cs = [.slice na x.nm.length nc,.slice ba x.bd.length bc]++b/\NB a Z W x na ba bc/\Jg a Z W r b
section
variable {Z Z' A A':Np} {W0 W W':Wl} {c:Av} {ls rs:List NL} {cs:List Value} {x y:NL} {na ba:Oa} {nc bc i j b1 b2:Nat} {rv v:Vl}
def Oo.mv(h:Oo W0 Z W c ls)(m:Cu Z W Z' W'):Oo W0 Z' W' c ls:=⟨h.sz,λi x a=>let⟨na,nc,ba,bc,h1,h2,h3,h4⟩:=h.f i x a;⟨na,nc,ba,bc,h1,h2,h3,h4.mv m⟩⟩
def Jg.mv(m:Cu Z W Z' W'):∀{rs:List NL} {cs:List Value},Jg W0 Z W rs cs->Jg W0 Z' W' rs cs
 |[],_,h=>h
 |_::_,_,⟨na,nc,ba,bc,cs',e,h1,h2⟩=>⟨na,nc,ba,bc,cs',e,h1.mv m,Jg.mv m h2⟩
def Jg.d(h:NB W0 Z W x na ba bc):∀{rs:List NL} {cs:List Value},Jg W0 Z W rs cs->Jg W0 Z W (rs++[x]) (cs++[Sl na x.nm.length nc,Sl ba x.bd.length bc])
 |[],_,e=>⟨na,nc,ba,bc,[],by rw[show _ = [] from e];simp,h,rfl⟩
 |_::_,_,⟨na',nc',ba',bc',cs',e,h1,h2⟩=>⟨na',nc',ba',bc',cs'++[.slice na x.nm.length nc,.slice ba x.bd.length bc],by rw[e];exact Ce _ _ _,h1,Jg.d h h2⟩
def Oo.n(h:Oo W0 Z W c ls)(A:ls[i]?=some x){d:Av}(v:d.size=c.size)(b:∀k,k / 3≠i->d[k]?=c[k]?)(s:d[i*3]?=some (Sl na y.nm.length nc))(t:d[i*3+1]?=some (.bool y.j))(u:d[i*3+2]?=some (Sl ba y.bd.length bc))(w:NB W0 Z W y na ba bc):Oo W0 Z W d (ls.set i y):=by
 refine⟨by rw[v,h.sz,Hb],λk z a=>?_⟩;by_cases e:k=i
 .subst e;rw[Ie (Bz.1 A).1]at a;obtain rfl:y=z:=by simpa using a
  exact⟨na,nc,ba,bc,s,t,u,w⟩
 rw[Oz (λq=>e q.symm)]at a;let⟨B,C,p,r,g,l,m,o⟩:=h.f k z a;exact⟨B,C,p,r,(b _ oM).trans g,(b _ oM).trans l,(b _ oM).trans m,o⟩
structure BU(W0:Wl)(b1 b2:Nat)(W:Wl)(A:Np)(rv:Vl)(c:Av)(rs ls:List NL):Prop where
 kp:Kf W0 W
 e:zG W W0.heap.size #[.map (some b1),.map (some b2)]
 f:zG W (W0.heap.size+1) #[nS,nS]
 d:zG W (W0.heap.size+2) c
 h:zG W (W0.heap.size+3) #[rv,Sl (Sm (W0.heap.size+2) 0) ls.length ls.length]
 la:Oo W0 (ZB W0 A) W c ls
 g:∃cs,zB A W rv 2 rs.length cs/\Jg W0 (ZB W0 A) W rs cs
 a:∀b,A b->W0.heap.size+5<=b/\b<W.heap.size
def BU.sz(h:BU W0 b1 b2 W A rv c rs ls):W0.heap.size+3<W.heap.size:=h.h.x.2.2
def BU.on(h:BU W0 b1 b2 W A rv c rs ls)(k:zA (λb=>b=W0.heap.size+4) W W'):BU W0 b1 b2 W' A rv c rs ls:=by
 have m:Cu (ZB W0 A) W (ZB W0 A) W':=Cu.d (k.h (λb q=>.inl ⟨by have q:b=_:=q;omega,by have q:b=_:=q;omega⟩));have i:∀b,b<W.heap.size->b≠W0.heap.size+4->W'.heap[b]?=W.heap[b]?:=λb o p=>k.d b o p;have r:=h.sz;exact⟨⟨k.os.trans h.kp.os,k.g.trans h.kp.g,k.f.trans h.kp.f,zP h.kp.l k.l,λb j n=>(i b (Ba j h.kp.l) oM).trans (h.kp.d b j n)⟩,h.e.a (i _ oM oM),h.f.a (i _ oM oM),h.d.a (i _ oM oM),h.h.a (i _ oM oM),h.la.mv m,let⟨cs,h1,h2⟩:=h.g;⟨cs,h1.on (λb q=>i b (h.a b q).2 (oH ((h.a b q).1))),h2.mv m⟩,λb q=>⟨(h.a b q).1,Ba (h.a b q).2 k.l⟩⟩
def BU.set(h:BU W0 b1 b2 W A rv c rs ls)(n:ls[i]?=some x)(l:j<3)(v:Vl)(k:Oo W0 (ZB W0 A) W (c.setIfInBounds (i*3+j) v) (ls.set i y)):BU W0 b1 b2 (W.setCell (Ad (W0.heap.size+2) (i*3+j)) v) A rv (c.setIfInBounds (i*3+j) v) rs (ls.set i y):=by
 have m:Cu (ZB W0 A) W (ZB W0 A) (W.setCell (Ad (W0.heap.size+2) (i*3+j)) v):=Cu.d (Dh (.inl ⟨by show _<=W0.heap.size+2;omega,by show W0.heap.size+2<_;omega⟩));exact⟨xT h.kp oM,h.e.i _ _ _ oM,h.f.i _ _ _ oM,h.d.set _ _,by rw[Hb];exact h.h.i _ _ _ oM,k.mv m,let⟨cs,h1,h2⟩:=h.g;⟨cs,h1.on (λb q=>Bn (λe=>by have e:b=W0.heap.size+2:=e;have:=(h.a b q).1;omega)),h2.mv m⟩,λb q=>by rw[uh];exact h.a b q⟩
def BU.k(h:BU W0 b1 b2 W A rv c rs ls)(p:NB W0 (ZB W0 A) W x na ba bc)(w:rs.length<=1000000)(D:W0.heap.size+5<=W.heap.size) :
  ∃j c' W' s,(Builtin.append_ #[31,31] 31 #[rv,Sl (Sm W.heap.size 0) 1 1]).run prog (W.alloc (Oc #[Sl na x.nm.length nc,Sl ba x.bd.length bc] 104))=.ok (Sl j (rs++[x]).length c') W'/\zG W' (W0.heap.size+3) #[rv,Sl (Sm (W0.heap.size+2) 0) ls.length ls.length]/\BU W0 b1 b2 (W'.setCell (Ad (W0.heap.size+3) 0) (Sl j (rs++[x]).length c')) s (Sl j (rs++[x]).length c') c (rs++[x]) ls:=by
 let⟨cs,t,u⟩:=h.g;let⟨j,c',W',z,y,k⟩:=Uq (o:=.cells #[Sl na x.nm.length nc,Sl ba x.bd.length bc] 104) (news:=[Sl na x.nm.length nc,Sl ba x.bd.length bc]) CW t (λb q=>(h.a b q).2) (qg underlying31 rfl rfl rfl) w oM;have E:=h.sz;have n:∀b,b<W0.heap.size+5->b<W.heap.size->W'.heap[b]?=W.heap[b]?:=λb F C=>k.d b C (λq=>oH ((h.a b q).1));have bv:=h.h.a (n _ oM oM);have m:Cu (ZB W0 A) W (ZB W0 (λb=>(A b\/W.heap.size<=b)/\b<W'.heap.size)) (W'.setCell (Ad (W0.heap.size+3) 0) (Sl j (rs++[x]).length c')) :=
  ⟨(k.h (λb q=>.inr q)).c (Dh (.inl ⟨by show _<=W0.heap.size+3;omega,by show W0.heap.size+3<_;omega⟩)),λb q=>q.elim (λq=>.inl (.inl q)) (λq=>q.1.imp .inr id)⟩
 have r:(rs++[x]).length=rs.length+1:=sM;have B:=k.l;refine⟨j,c',W',λb=>(A b\/W.heap.size<=b)/\b<W'.heap.size,by rw[r];exact z,bv,⟨?_,(h.e.a (n _ oM oM)).i _ _ _ oM,(h.f.a (n _ oM oM)).i _ _ _ oM,(h.d.a (n _ oM oM)).i _ _ _ oM,bv.set 0 _,h.la.mv m,⟨cs++[Sl na x.nm.length nc,Sl ba x.bd.length bc],?_,Jg.d (p.mv m) (u.mv m)⟩,λb q=>?_⟩⟩
 .exact xT ⟨k.os.trans h.kp.os,k.g.trans h.kp.g,k.f.trans h.kp.f,zP h.kp.l B,λb v p=>(n b oM (oH h.kp.l)).trans (h.kp.d b v p)⟩ oM
 .rw[r];exact y.on (λb q=>Bn (λe=>by have e:b=W0.heap.size+3:=e;exact q.1.elim (λq=>oH ((h.a b q).1)) (λq=>oM)))
 rw[uh];exact⟨q.1.elim (λq=>(h.a b q).1) (λq=>oM),q.2⟩
end
end
end Go.Proofs.YtmlblamikgkdcaaGreat
