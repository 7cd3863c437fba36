import Derived.Test.YtoihadcablknpaaGreatDoorT33
import Derived.Test.YtoihadcablknpaaGreatDoorT34
set_option linter.unusedVariables false
set_option linter.unusedSimpArgs false
set_option linter.defProp false
set_option maxHeartbeats 40000000
set_option maxRecDepth 100000
namespace Go.Proofs.YtoihadcablknpaaGreatDoor
open Go.RowKit
open Go.Proofs.Tryz
open M (OpD uh Gr)
def GI{a b}(c:0<=a)(d:a<=b)(e:b<=255):M.bL [a,b].length (lf [a,b]):=by
 refine⟨sM,λi f=>?_⟩;match i,f with
 |0,_=>exact⟨c,by show a<=255;omega,λq=>absurd q oM,λq=>absurd q.1 oM⟩
 |1,_=>exact⟨by show 0<=b;omega,e,λ_=>d,λq=>absurd q.2 oM⟩
def jh:List OpD->Int->Option Int
 |[],d=>some d
 |o::r,d=>if M.ar o.e<=d then jh r (d+(1-M.ar o.e)) else none
def Tm:∀(x y:List OpD) (d:Int),jh (x++y) d=(jh x d).bind (jh y)
 |[],y,d=>rfl
 |o::r,y,d=>by
  rw[Cb,jh,jh];split
  ·exact Tm r y _
  rfl
def Js(D:List OpD):Prop:=∀d,0<=d->jh D d=some (d+1)
def qJ{o}(h:M.ar o.e=0):Js [o]:=λd a=>by rw[jh,h,Zp a,jh];simp
def Xp{k D}(h:Js D)(b:M.ar k=1):Js (Bu k D):=λd a=>by
 rw[Bu,Tm,h d a];show jh [zY k 0] (d+1)=_;rw[jh];have e:M.ar (zY k 0).e=1:=b;rw[e,Zp oM,jh];simp
def Xq{k D a}(h:Js D)(b:Js a)(f:M.ar k=2):Js (vU k D a):=λd c=>by
 rw[vU,Tm,Tm,h d c];show((jh a (d+1)).bind (jh [zY k 0]))=_;rw[b (d+1) oM];show jh [zY k 0] (d+1+1)=_;rw[jh];have e:M.ar (zY k 0).e=2:=f;rw[e,Zp oM,jh];congr 1;omega
def Xr{z}:Js (vr z):=qJ rfl
def YI z:Js (yi z):=by
 have b:∀(r:LI) (D:List OpD),Js D->Js (r.foldl (λout y=>out++vr (yB y)++[zY 4 0]) D):=by
  intro r;induction r with
  |nil=>exact λD h=>h
  |cons y r a=>exact λD h=>a _ (Xq h (Xr) rfl)
 cases z with
 |nil=>exact qJ rfl
 |cons x r=>exact b r _ (Xr)
def YJ(rs ls:List LI)(e:PE):Js (e.e rs ls):=by
 induction e with
 |ref t|thr c t|emp=>exact qJ rfl
 |str t=>exact YI _
 |cls t|dot t=>exact Xr
 |grp o e c d=>exact d
 |star e t d|not t e d=>exact Xp d rfl
 |opt e t d=>exact Xq d (qJ rfl) rfl
 |amp t e d=>exact Xp (Xp d rfl) rfl
 |seq a b iha ihb|alt a t b iha ihb=>exact Xq iha ihb rfl
def YK{D}(h:Js D):M.dF D.length (df D):=by
 have k:∀i,i<=D.length->(∀j,j<i->M.ar (df D j).e<=M.dep (df D) j)/\jh (D.drop i) (M.dep (df D) i)=some 1:=by
  intro i;induction i with
  |zero=>exact λ_=>⟨λj c=>absurd c oM,by rw[Ks];exact h 0 (Eg _)⟩
  |succ i g =>
   intro l;obtain⟨b,a⟩:=g oM;have d:D[i]?=some D[i]:=zG oM;rw[vD d,jh]at a;have e:=Oz d;split at a
   ·rename_i f;refine⟨λj c=>?_,?_⟩
    ·by_cases q:j=i
     ·subst q;rw[e];exact f
     exact b j oM
    rw[M.dep,e];exact a
   cases a
 obtain⟨b,a⟩:=k D.length wF;rw[Jq wF,jh]at a;injection a with a;exact⟨b,a⟩
def PE.j:PE->List LI
 |.ref t=>[t.nm]
 |.thr _ _|.str _|.cls _|.dot _|.emp=>[]
 |.grp _ e _|.star e _|.opt e _|.not _ e|.amp _ e=>e.j
 |.seq a b|.alt a _ b=>a.j++b.j
def PE.m:PE->List LI
 |.thr _ t=>[t.nm]
 |.ref _|.str _|.cls _|.dot _|.emp=>[]
 |.grp _ e _|.star e _|.opt e _|.not _ e|.amp _ e=>e.m
 |.seq a b|.alt a _ b=>a.m++b.m
def GJ{z l}(h:z∈l):0<=uU z l 0/\uU z l 0<l.length:=by
 have b:∀(l:List LI) (i:Nat),z∈l->(i:Int)<=uU z l i/\uU z l i<(i:Int)+l.length:=by
  intro l;induction l with
  |nil=>intro i h;cases h
  |cons y r a =>
   intro i h;rw[uU];by_cases e:y=z
   ·rw[Zp e];simp only[zQ];omega
   rw[Zn e];have:=a (i+1) ((Bx.1 h).resolve_left (λq=>e q.symm));simp only[zQ];omega
 have:=b l 0 h;omega
def Xs{nr a k}(b:0<=k)(f:k<=7)(c:k≠1)(d:k≠2)(e:k≠3):M.bE nr a (zY k 0) :=
 ⟨b,f,λq=>aB q c,λ_=>rfl,Eg _,by show(0:Int)<M.bM nr a k;unfold M.bM;rw[Zn e,Zn d];omega⟩
def Xt{nr b z}(h:M.bL z.length (lf z)):∀x∈vr z,M.bE nr b x:=λx a=>by
 rw[vr]at a;rw[Aw.1 a];exact⟨by show(0:Int)<=1;decide,by show(1:Int)<=7;decide,λ_=>h,λq=>aB rfl q,Eg _,by show(0:Int)<M.bM nr b 1;unfold M.bM;rw[Zn dC,Zn dC];decide⟩
def YL{n:Nat}(rs ls:List LI)(e:PE)(d:∀t∈e.tk,Ar n t)(f:e.ok 5)(g:∀z∈e.j,z∈rs)(i:∀z∈e.m,z∈ls):∀x∈e.e rs ls,M.bE rs.length ls.length x:=by
 have un:∀k D,k=6\/k=7->(∀x∈D,M.bE rs.length ls.length x)->∀x∈Bu k D,M.bE rs.length ls.length x:=λk D A h x p=>by
  rw[Bu]at p;rcases Bh.1 p with q|q
  ·exact h x q
  rw[Aw.1 q];rcases A with rfl|rfl<;>exact Xs dC dC dC dC dC
 have v:∀k D w,k=4\/k=5->(∀x∈D,M.bE rs.length ls.length x)->(∀x∈w,M.bE rs.length ls.length x)->∀x∈vU k D w,M.bE rs.length ls.length x:=λk D w A h F x p=>by
  rw[vU]at p;simp only[Bh,Aw]at p;rcases p with (q|q)|q
  ·exact h x q
  ·exact F x q
  rw[q];rcases A with rfl|rfl<;>exact Xs dC dC dC dC dC
 have emp:∀x∈uN 0 0,M.bE rs.length ls.length x:=λx p=>by
  rw[uN]at p;rw[Aw.1 p];exact Xs dC dC dC dC dC
 have E:∀y:Int,0<=y->y<=255->∀x∈vr (yB y),M.bE rs.length ls.length x:=λy G H=>Xt (GI G (Eg _) H)
 have N:∀z,wW z->∀x∈yi z,M.bE rs.length ls.length x:=by
  have J:∀(r:LI) (D:List OpD),wW r->(∀x∈D,M.bE rs.length ls.length x)->∀x∈r.foldl (λout y=>out++vr (yB y)++[zY 4 0]) D,M.bE rs.length ls.length x:=by
   intro r;induction r with
   |nil=>exact λD _ h=>h
   |cons y r s=>exact λD u h=>s _ (λx p=>u x (by simp[p])) (v 4 D (vr (yB y)) (.inl rfl) h (E y (u y sM).1 (u y sM).2))
  intro z u;cases z with
  |nil=>exact emp
  |cons y r=>exact J r _ (λx p=>u x (by simp[p])) (E y (u y sM).1 (u y sM).2)
 have L:∀(e:PE) (l:Nat),(∀t∈e.tk,Ar n t)->e.ok l->(∀z∈e.j,z∈rs)->(∀z∈e.m,z∈ls)->∀x∈e.e rs ls,M.bE rs.length ls.length x:=by
  intro e;induction e with
  |ref t =>
   intro l d f g i x p;rw[PE.e,uN]at p;rw[Aw.1 p];have:=GJ (g t.nm (by simp[PE.j]));exact⟨by show(0:Int)<=2;decide,by show(2:Int)<=7;decide,λq=>aB (show(2:Int)=1 from q) dC,λ_=>rfl,this.1,by show uU t.nm rs 0<M.bM _ _ 2;unfold M.bM;rw[Zn dC,Zp rfl];exact this.2⟩
  |thr c t =>
   intro l d f g i x p;rw[PE.e,uN]at p;rw[Aw.1 p];have:=GJ (i t.nm (by simp[PE.m]));exact⟨by show(0:Int)<=3;decide,by show(3:Int)<=7;decide,λq=>aB (show(3:Int)=1 from q) dC,λ_=>rfl,this.1,by show uU t.nm ls 0<M.bM _ _ 3;unfold M.bM;rw[Zp rfl];exact this.2⟩
  |str t=>exact λl d _ _ _=>N _ (d t (by simp[PE.tk])).j
  |cls t =>
   intro l d f _ _;obtain⟨m,I⟩:=(d t (by simp[PE.tk])).cls f;show ∀x∈vr t.set,_;exact Xt (by rw[I];exact qC m)
  |dot t=>exact λl _ _ _ _=>Xt (GI dC dC dC)
  |grp o e c s=>exact λl d f g i=>s 5 (λt q=>d t (by simp[PE.tk,q])) f.2.2 g i
  |star e t s=>exact λl d f g i=>un _ _ (.inl rfl) (s 0 (λt q=>d t (by simp[PE.tk,q])) f.2.2 g i)
  |opt e t s=>exact λl d f g i=>v _ _ _ (.inr rfl) (s 0 (λt q=>d t (by simp[PE.tk,q])) f.2.2 g i) emp
  |not t e s=>exact λl d f g i=>un _ _ (.inr rfl) (s 2 (λt q=>d t (by simp[PE.tk,q])) f.2.2 g i)
  |amp t e s=>exact λl d f g i=>un _ _ (.inr rfl) (un _ _ (.inr rfl) (s 2 (λt q=>d t (by simp[PE.tk,q])) f.2.2 g i))
  |emp=>exact λl _ _ _ _=>emp
  |seq a b B C=>exact λl d f g i=>v _ _ _ (.inl rfl) (B 3 (λt q=>d t (by simp[PE.tk,q])) f.2.1 (λz q=>g z (by simp[PE.j,q])) (λz q=>i z (by simp[PE.m,q]))) (C 2 (λt q=>d t (by simp[PE.tk,q])) f.2.2 (λz q=>g z (by simp[PE.j,q])) (λz q=>i z (by simp[PE.m,q])))
  |alt a t b B C=>exact λl d f g i=>v _ _ _ (.inr rfl) (B 5 (λt q=>d t (by simp[PE.tk,q])) f.2.2.1 (λz q=>g z (by simp[PE.j,q])) (λz q=>i z (by simp[PE.m,q]))) (C 4 (λt q=>d t (by simp[PE.tk,q])) f.2.2.2 (λz q=>g z (by simp[PE.j,q])) (λz q=>i z (by simp[PE.m,q])))
 exact L e 5 d f g i
def YM{n:Nat}(rs ls:List LI)(e:PE)(b:∀t∈e.tk,Ar n t)(c:e.ok 5)(d:∀z∈e.j,z∈rs)(f:∀z∈e.m,z∈ls):M.bF rs.length ls.length (e.e rs ls).length (df (e.e rs ls)) :=
 ⟨λi a=>by rw[Oz (zG a)];exact YL rs ls e b c d f _ (Gb a),YK (YJ rs ls e)⟩
def XT:∀(e:PE),∀t∈e.b,t∈e.tk:=by
 intro e;induction e with
 |ref t=>intro x d;simpa[PE.b,PE.tk] using d
 |thr c t|str t|cls t|dot t|emp=>intro x d;cases d
 |grp o e c ih|star e t ih|opt e t ih|not t e ih|amp t e ih=>intro x d;have:=ih x d;simp[PE.tk,this]
 |seq a b iha ihb|alt a t b iha ihb=>intro x d;rcases Bh.1 d with q|q;have:=iha x q;simp[PE.tk,this];have:=ihb x q;simp[PE.tk,this]
def FV:∀(e:PE),∀t∈e.a,t∈e.tk:=by
 intro e;induction e with
 |thr c t =>
   intro x d;have:x=t:=by simpa[PE.a] using d
   simp[PE.tk,this]
 |ref t|str t|cls t|dot t|emp=>intro x d;cases d
 |grp o e c ih|star e t ih|opt e t ih|not t e ih|amp t e ih=>intro x d;have:=ih x d;simp[PE.tk,this]
 |seq a b iha ihb|alt a t b iha ihb=>intro x d;rcases Bh.1 d with q|q;have:=iha x q;simp[PE.tk,this];have:=ihb x q;simp[PE.tk,this]
def XU:∀(e:PE),e.j=e.b.map (·.nm):=by
 intro e;induction e with
 |ref t|thr c t|str t|cls t|dot t|emp=>rfl
 |grp o e c ih|star e t ih|opt e t ih|not t e ih|amp t e ih=>exact ih
 |seq a b iha ihb|alt a t b iha ihb=>simp[PE.j,PE.b,iha,ihb]
def XV:∀(e:PE),e.m=e.a.map (·.nm):=by
 intro e;induction e with
 |ref t|thr c t|str t|cls t|dot t|emp=>rfl
 |grp o e c ih|star e t ih|opt e t ih|not t e ih|amp t e ih=>exact ih
 |seq a b iha ihb|alt a t b iha ihb=>simp[PE.m,PE.a,iha,ihb]
def Mi(a b:Option Nat):Option Nat:=match a with|some p=>some p|none=>b
def Th a:∀(x y:List wH),xS a (x++y)=Mi (xS a x) (xS a y)
 |[],y=>rfl
 |t::r,y=>by
  rw[Cb,xS,xS,Th a r y];split<;>rfl
def FW(a b c:Option Nat):Mi (Mi a b) c=Mi a (Mi b c):=by cases a<;>rfl
def yr{a t pc r}(b:t.e≠110)(c:t.e≠94):yU a pc (t::r)=yU a false r:=by
 rw[yU,Zn (λq=>b q.1)];have:(t.e==94)=false:=by simp[c]
 rw[this]
def XW d:∀(e:PE) (l:Nat) (r:List wH),e.ok l->yU d false (e.tk++r)=Mi (xS d e.b) (yU d false r):=by
 intro e;induction e with
 |ref t =>
  intro l r h;have h:=h;show yU d false (t::r)=_;rw[yU];have g:(t.e==94)=false:=by rw[h];rfl
  rw[g];simp only[PE.b,xS];by_cases q:t.nm∈d
  ·rw[Zn (λz=>z.2.2 q),Zp q];rfl
  rw[Zp ⟨h,trivial,q⟩,Zn q];rfl
 |thr c t =>
  intro l r h;obtain⟨m,n⟩:c.e=94/\t.e=110:=h;show yU d false (c::t::r)=yU d false r;rw[yU,Zn (λq=>oM)];have g:(c.e==94)=true:=by rw[m];rfl
  rw[g,yU,Zn (λq=>by cases q.2.1)];have k:(t.e==94)=false:=by rw[n];rfl
  rw[k]
 |str t=>intro l r h;have h:t.e=34:=h;exact yr oM oM
 |cls t=>intro l r h;have h:t.e=91:=h;exact yr oM oM
 |dot t=>intro l r h;have h:t.e=46:=h;exact yr oM oM
 |grp o e c f =>
  intro l r h;show yU d false ((o::(e.tk++[c]))++r)=_;rw[Cb,zU,yr (by rw[h.1];omega) (by rw[h.1];omega),f 5 _ h.2.2,Jn,yr (by rw[h.2.1];omega) (by rw[h.2.1];omega)];rfl
 |star e t f =>
  intro l r h;show yU d false ((e.tk++[t])++r)=_;rw[zU,f 0 _ h.2.2,Jn,yr (by rw[h.2.1];omega) (by rw[h.2.1];omega)];rfl
 |opt e t f =>
  intro l r h;show yU d false ((e.tk++[t])++r)=_;rw[zU,f 0 _ h.2.2,Jn,yr (by rw[h.2.1];omega) (by rw[h.2.1];omega)];rfl
 |not t e f =>
  intro l r h;show yU d false (t::(e.tk++r))=_;rw[yr (by rw[h.2.1];omega) (by rw[h.2.1];omega),f 2 _ h.2.2];rfl
 |amp t e f =>
  intro l r h;show yU d false (t::(e.tk++r))=_;rw[yr (by rw[h.2.1];omega) (by rw[h.2.1];omega),f 2 _ h.2.2];rfl
 |emp=>intro l r h;rfl
 |seq a b i j =>
  intro l r h;show yU d false ((a.tk++b.tk)++r)=Mi (xS d (a.b++b.b)) _;rw[zU,i 3 _ h.2.1,j 2 _ h.2.2,Th,FW]
 |alt a t b i j =>
  intro l r h;show yU d false ((a.tk++t::b.tk)++r)=Mi (xS d (a.b++b.b)) _;rw[zU,i 5 _ h.2.2.1,Cb,yr (by rw[h.2.1];omega) (by rw[h.2.1];omega),j 4 _ h.2.2.2,Th,FW]
def Xm a:∀(c:List Rl),(∀q∈c,q.ok)->xS a (yG c)=yW a c
 |[],_=>rfl
 |q::r,h=>by
  have f:yG (q::r)=q.e.b++yG r:=rfl;have d:=XW a q.e 5 [] (h q sM).2.2.2.1;rw[Ca]at d;rw[f,Th,Xm a r (λx g=>h x (by simp[g])),yW,d];cases xS a q.e.b<;>rfl
def FX{a}:∀{l:List wH},xS a l=none->∀t∈l,t.nm∈a
 |[],_,t,h=>by cases h
 |x::r,h,t,ht=>by
  rw[xS]at h;split at h
  ·rename_i q;rcases Bx.1 ht with e|e
   ·rw[e];exact q
   exact FX h t e
  cases h
def vq{x r}(h:x.e≠94):uF (x::r)=uF r:=by
 cases r with
 |nil=>rfl
 |cons y r=>rw[uF,Zn h];rfl
def XX:∀(e:PE) (l:Nat) (r:List wH),e.ok l->uF (e.tk++r)=e.a.map (·.nm)++uF r:=by
 intro e;induction e with
 |ref t=>intro l r h;have h:t.e=110:=h;exact vq oM
 |thr c t =>
  intro l r h;obtain⟨i,j⟩:c.e=94/\t.e=110:=h;show uF (c::t::r) = [t.nm]++uF r;rw[uF,Zp i,vq oM]
 |str t=>intro l r h;have h:t.e=34:=h;exact vq oM
 |cls t=>intro l r h;have h:t.e=91:=h;exact vq oM
 |dot t=>intro l r h;have h:t.e=46:=h;exact vq oM
 |grp o e c d =>
  intro l r h;show uF ((o::(e.tk++[c]))++r)=e.a.map (·.nm)++uF r;rw[Cb,zU,vq (by rw[h.1];omega),d 5 _ h.2.2,Jn,vq (by rw[h.2.1];omega)]
 |star e t d =>
  intro l r h;show uF ((e.tk++[t])++r)=e.a.map (·.nm)++uF r;rw[zU,d 0 _ h.2.2,Jn,vq (by rw[h.2.1];omega)]
 |opt e t d =>
  intro l r h;show uF ((e.tk++[t])++r)=e.a.map (·.nm)++uF r;rw[zU,d 0 _ h.2.2,Jn,vq (by rw[h.2.1];omega)]
 |not t e d =>
  intro l r h;show uF (t::(e.tk++r))=e.a.map (·.nm)++uF r;rw[vq (by rw[h.2.1];omega),d 2 _ h.2.2]
 |amp t e d =>
  intro l r h;show uF (t::(e.tk++r))=e.a.map (·.nm)++uF r;rw[vq (by rw[h.2.1];omega),d 2 _ h.2.2]
 |emp=>intro l r h;rfl
 |seq a b f g =>
  intro l r h;show uF ((a.tk++b.tk)++r)=(a.a++b.a).map (·.nm)++uF r;rw[zU,f 3 _ h.2.1,g 2 _ h.2.2,Cl,zU]
 |alt a t b f g =>
  intro l r h;show uF ((a.tk++t::b.tk)++r)=(a.a++b.a).map (·.nm)++uF r;rw[zU,f 5 _ h.2.2.1,Cb,vq (by rw[h.2.1];omega),g 4 _ h.2.2.2,Cl,zU]
def XY{d}(h:∀q∈d,q.ok)z:z∈uB d↔z∈yD d\/∃t∈ja d,t.nm=z:=by
 have e:∀q∈d,uF q.e.tk=q.e.a.map (·.nm):=λq b=>by
  have:=XX q.e 5 [] (h q b).2.2.2.1;rw[Ca]at this;rw[this];simp[uF]
 unfold uB yD ja yL;simp only[Hi,Bh,Dc,Ik];constructor
 ·rintro⟨q,b,c|c⟩
  ·split at c
   ·rename_i f;exact .inl ⟨q,⟨b,f⟩,(Aw.1 c).symm⟩
   cases c
  rw[e q b]at c;obtain⟨t,g,rfl⟩:=Dc.1 c;exact .inr ⟨t,⟨q,b,g⟩,rfl⟩
 rintro (⟨q,⟨b,f⟩,rfl⟩|⟨t,⟨q,b,g⟩,rfl⟩)
 ·exact⟨q,b,.inl (by rw[Zp f];simp)⟩
 exact⟨q,b,.inr (by rw[e q b];exact Dc.2 ⟨t,g,rfl⟩)⟩
def GK{l:List NL}{i:Nat}{x:NL}(h:l[i]?=some x):uR (l.getD i default)=uR x:=by rw[Cx,h];rfl
def Xu{ls b i x}(h:(uE (ug b) ls b)[i]?=some x):(ux ls b).a i=uR x:=GK h
def Xv{ls a i x}(h:(uG (ug a) ls a)[i]?=some x):(ux ls a).d i=uR x:=GK h
def qj ls a:(uE (ug a) ls a).map (·.nm)=ug a:=by
 unfold uE;rw[Md];rfl
def GL:∀{seen g:List Rl},yM seen g=none->(ug g).Nodup/\∀z∈ug g,z ∉ ug seen
 |seen,[],_=>⟨List.nodup_nil,λz c=>by cases c⟩
 |seen,q::r,h=>by
  rw[yM]at h;split at h
  ·cases h
  rename_i j;obtain⟨i,b⟩:=GL h;have e:ug (q::r)=(if q.a.isSome then [] else [q.f.nm])++ug r:=by
   unfold ug;cases d:q.a<;>simp[d]
  rw[OY]at b;rw[e];cases d:q.a.isSome
  ·rw[d]at b;simp only[Kr,if_false]at b ⊢;have k:q.f.nm ∉ ug seen:=λz=>j (by
    have:=(BV seen q).2 (by rw[d];simpa using z);exact this)
   refine⟨?_,λz c=>?_⟩
   ·rw[Jn,List.nodup_cons];exact⟨λz=>b _ z sM,i⟩
   rw[Jn]at c;rcases Bx.1 c with rfl|c
   ·exact k
   exact λy=>b z c (by simp[y])
  rw[d]at b;simp only[if_true,Dl]at b ⊢;exact⟨i,b⟩
def GM:∀{l:List LI},Dp l->∀(i:Nat) (y z:LI),l[i]?=some y->l[i+1]?=some z->Ei y z
 |[],_,i,y,z,h,_=>by simp at h
 |x::r,ha,0,y,z,h,k=>by
  simp at h k;subst h;exact ha.1 z (Be k)
 |x::r,ha,i+1,y,z,h,k=>by
  simp at h k;exact GM ha.2 i y z h k
structure Dg(n:Nat)(qs:List Rl)(ls:List LI):Prop where
 ok:∀q∈qs,q.ok
 r:∀q∈qs,Ar n q.f/\∀x∈q.e.tk,Ar n x
 h:yM [] qs=none
 j:xS (ug qs) (yG qs)=none
 ne:ug qs≠[]
 k:Dp ls
 f:∀z,z∈ls↔z∈yD qs\/∃t∈ja qs,t.nm=z
def Dg.g{n a ls}(h:Dg n a ls):∀q∈a,∀t∈q.e.b,t.nm∈ug a:=λq c t d=>FX h.j t (Hi.2 ⟨q,c,d⟩)
def Dg.i{n b ls}(h:Dg n b ls):∀q∈b,∀t∈q.e.a,t.nm∈ls:=λq c t d=>(h.f _).2 (.inr ⟨t,Hi.2 ⟨q,c,d⟩,rfl⟩)
def Dg.d{n b ls}(h:Dg n b ls):∀q∈b,q.a.isSome=true->q.f.nm∈ls:=λq e c=>(h.f _).2 (.inl (Dc.2 ⟨q,Ik.2 ⟨e,c⟩,rfl⟩))
def Xw{n x}(h:Ar n x)(d:x.e=110):M.cC x.nm.length (lf x.nm):=by
 obtain⟨b,y,r,e,c⟩:=h.f d;refine⟨λi a=>?_,by rw[e];simp,?_⟩
 ·rw[Pw (zG a)];exact b _ (Gb a)
 rw[e];exact c
def YN:∀(e:PE) (l:Nat),e.ok l->∀t∈e.a,t.e=110:=by
 intro e;induction e with
 |thr c t =>
   intro l h x d;have:x=t:=by simpa[PE.a] using d
   rw[this];exact h.2
 |ref t|str t|cls t|dot t|emp=>intro l h x d;cases d
 |grp o e c f=>intro l h x d;exact f 5 h.2.2 x d
 |star e t f|opt e t f=>intro l h x d;exact f 0 h.2.2 x d
 |not t e f|amp t e f=>intro l h x d;exact f 2 h.2.2 x d
 |seq a b g i=>intro l h x d;rcases Bh.1 d with q|q;exact g 3 h.2.1 x q;exact i 2 h.2.2 x q
 |alt a t b g i=>intro l h x d;rcases Bh.1 d with q|q;exact g 5 h.2.2.1 x q;exact i 4 h.2.2.2 x q
def Dg.a{n i ls}(h:Dg n i ls){z}(g:z∈ls):M.cC z.length (lf z):=by
 rcases(h.f z).1 g with e|⟨t,c,rfl⟩
 ·obtain⟨q,b,rfl⟩:=Dc.1 e;have d:=(Ik.1 b).1;exact Xw (h.r q d).1 (h.ok q d).2.1
 obtain⟨q,b,c⟩:=Hi.1 c;exact Xw ((h.r q b).2 t (FV _ t c)) (YN _ 5 (h.ok q b).2.2.2.1 t c)
def YO{a b}(h:M.cQ (uR ⟨a,true,[]⟩) (uR ⟨b,true,[]⟩)):a=b:=by
 obtain⟨d,f⟩:=h;have d:a.length=b.length:=d;refine List.ext_getElem? (λi=>?_);by_cases c:i<a.length
 ·have e:=f i c;have e:lf a i=lf b i:=e;rw[Pw (zG c),Pw (zG (d▸c))]at e;rw[zG c,zG (d▸c),e]
 rw[Oj oM,Oj oM]
def Dg.m{n b ls}(h:Dg n b ls):Uy (ux ls b):=by
 have H:(ux ls b).nr=(uE (ug b) ls b).length:=rfl;have F:(ux ls b).nb=ls.length:=by show(uG (ug b) ls b).length=_;unfold uG;rw[zN]
 have E:∀i,i<(ux ls b).nr->∃q∈b,q.a.isSome=false/\(ux ls b).a i=uR (Ph (ug b) ls q)/\(ug b)[i]?=some q.f.nm:=λi c=>by
  rw[H]at c;have v:=zG c;have s:=Gb c;have e:(ug b)[i]?=some ((uE (ug b) ls b)[i]).nm:=by
   have w:=zD (λl=>l[i]?) (qj ls b);simp only[Du,v]at w;exact w.symm
  generalize (uE (ug b) ls b)[i]=x at v s e;unfold uE at s;obtain⟨q,o,rfl⟩:=Dc.1 s;have t:=Ik.1 o;exact⟨q,t.1,by simpa using t.2,Xu v,e⟩
 have D:∀i,i<(ux ls b).nb->∃z,ls[i]?=some z/\(ux ls b).d i=uR (vx (ug b) ls b z):=λi c=>by
  rw[F]at c;refine⟨ls[i],zG c,Xv ?_⟩;unfold uG;rw[Du,zG c];rfl
 refine⟨λi c=>?_,λi c=>?_⟩
 ·obtain⟨q,o,O,e,g⟩:=E i c;rw[e];refine⟨Xw (h.r q o).1 (h.ok q o).2.1,λj R u=>?_⟩;obtain⟨J,t,P,p,A⟩:=E j oM;rw[p]at u;have G:q.f.nm=J.f.nm:=YO ⟨u.1,u.2⟩;have B:=(GL h.h).1;rw[<-G]at A;have L:=qx B g;have N:=qx B A;omega
 obtain⟨z,C,e⟩:=D i c;rw[e];have g:(uR (vx (ug b) ls b z)).nl=z.length/\(uR (vx (ug b) ls b z)).f=lf z:=by
  have:=xu (ug b) ls b z;exact⟨by show(vx (ug b) ls b z).nm.length=_;rw[this],by show lf (vx (ug b) ls b z).nm=_;rw[this]⟩
 rw[g.1,g.2];refine⟨h.a (Be C),λQ=>?_⟩;obtain⟨y,I,p⟩:=D (i-1) oM;rw[p];show M.LessT (vx (ug b) ls b y).nm.length (lf (vx (ug b) ls b y).nm) (vx (ug b) ls b z).nm.length (lf (vx (ug b) ls b z).nm);rw[xu,xu];exact(Ud _ _).2 (GM h.k (i-1) y z I (by rw[show i-1+1=i by omega];exact C))
def Dg.e{n a ls}(h:Dg n a ls){q}(c:q∈a):M.bF (ux ls a).nr (ux ls a).nb (q.e.e (ug a) ls).length (df (q.e.e (ug a) ls)):=by
 have j:(ux ls a).nr=(ug a).length:=by
  have f:=zD List.length (qj ls a);rw[zN]at f;exact f
 have k:(ux ls a).nb=ls.length:=by show(uG (ug a) ls a).length=_;unfold uG;rw[zN]
 rw[j,k];refine YM (ug a) ls q.e (h.r q c).2 (h.ok q c).2.2.2.1 (λz b=>?_) (λz b=>?_)
 ·rw[XU]at b;obtain⟨t,d,rfl⟩:=Dc.1 b;exact h.g q c t d
 rw[XV]at b;obtain⟨t,d,rfl⟩:=Dc.1 b;exact h.i q c t d
def Dg.l{n b ls}(h:Dg n b ls):qh (ux ls b):=by
 refine⟨λi g=>?_,λi g=>?_⟩
 ·have hi':i<(uE (ug b) ls b).length:=g;have d:=zG hi';have c:=Gb hi';generalize (uE (ug b) ls b)[i]=x at d c;unfold uE at c;obtain⟨q,k,rfl⟩:=Dc.1 c;rw[Xu d];exact h.e (Ik.1 k).1
 have hi':i<(uG (ug b) ls b).length:=g;have d:=zG hi';have c:=Gb hi';generalize (uG (ug b) ls b)[i]=x at d c;unfold uG at c;obtain⟨z,m,rfl⟩:=Dc.1 c;rw[Xv d];unfold vx;cases j:b.find? (λq=>q.a.isSome&&decide (q.f.nm=z)) with
 |none=>exact⟨λq=>absurd (show false=true from q) sM,λ_=>rfl⟩
 |some q=>exact⟨λ_=>h.e (List.mem_of_find?_eq_some j),λq=>absurd (show true=false from q) sM⟩
def YP rs ls:∀(e:PE),∀t∈e.a,zY 3 (uU t.nm ls 0)∈e.e rs ls:=by
 intro e;induction e with
 |thr c t =>
   intro x d;have:x=t:=by simpa[PE.a] using d
   rw[this];simp[PE.e,uN]
 |ref t|str t|cls t|dot t|emp=>intro x d;cases d
 |grp o e c f=>exact f
 |star e t f|not t e f|amp t e f=>intro x d;have:=f x d;simp[PE.e,Bu,this]
 |opt e t f=>intro x d;have:=f x d;simp[PE.e,vU,this]
 |seq a b iha ihb|alt a t b iha ihb=>intro x d;rcases Bh.1 d with q|q;have:=iha x q;simp[PE.e,vU,this];have:=ihb x q;simp[PE.e,vU,this]
def YQ{D k}(h:zY 3 ((k:Nat):Int)∈D):M.bO D.length (df D) k:=by
 obtain⟨i,a⟩:=Nb h;exact⟨i,(zT.1 a).1,by rw[Oz a];rfl,by rw[Oz a];rfl⟩
def GN:∀{l:List LI},Dp l->l.Nodup
 |[],_=>List.nodup_nil
 |x::r,h=>List.nodup_cons.2 ⟨λq=>yK x (h.1 x q),GN h.2⟩
def Dg.p{n b ls}(h:Dg n b ls):Uw (ux ls b):=by
 intro i R l;rw[EH];have L:(ux ls b).nb=ls.length:=by show(uG (ug b) ls b).length=_;unfold uG;rw[zN]
 have I:i<ls.length:=oM;have v:=zG I;generalize ls[i]=z at v;have E:∀(j:Nat) (y:LI),ls[j]?=some y->(ux ls b).d j=uR (vx (ug b) ls b y):=λj y Q=>Xv (by unfold uG;rw[Du,Q];rfl)
 rw[E i z v]at l;have D:=Be v;have J:uU z ls 0=((i:Nat):Int):=by rw[BW D,qx (GN h.k) v,zL]
 have O:∀q∈b,q.a.isSome=true->q.f.nm≠z:=λq g c e=>by
  have u:∃w,b.find? (λq=>q.a.isSome&&decide (q.f.nm=z))=some w:=by
   cases x:b.find? (λq=>q.a.isSome&&decide (q.f.nm=z)) with
   |none =>
    have:=List.find?_eq_none.1 x q g;simp[c,e]at this
   |some w=>exact⟨w,rfl⟩
  obtain⟨w,x⟩:=u;unfold vx at l;rw[x]at l;have l:=l;cases l
 rcases(h.f z).1 D with P|⟨t,A,F⟩
 ·obtain⟨q,g,e⟩:=Dc.1 P;have hq':=Ik.1 g;exact aB e (O q hq'.1 hq'.2)
 obtain⟨q,g,A⟩:=Hi.1 A;have B:=YP (ug b) ls q.e t A;rw[F,J]at B;have C:=YQ B;cases c:q.a.isSome with
 |false =>
  have o:Ph (ug b) ls q∈uE (ug b) ls b:=Dc.2 ⟨q,Ik.2 ⟨g,by rw[c];rfl⟩,rfl⟩;obtain⟨j,r⟩:=Nb o;refine .inl ⟨j,(zT.1 r).1,?_⟩;rw[Xu r];exact C
 |true =>
  obtain⟨j,r⟩:=Nb (h.d q g c);refine .inr ⟨j,by rw[L];exact(zT.1 r).1,?_⟩;rw[E j _ r];obtain⟨m,o⟩:=Nb g;have e:vx (ug b) ls b q.f.nm=⟨q.f.nm,true,q.e.e (ug b) ls⟩:=by
   have G:vx (ug b) ls (b.take (m+1)) q.f.nm=⟨q.f.nm,true,q.e.e (ug b) ls⟩:=by
    rw[jq o];exact ID c (λs u=>qp h.h m q o s (by simpa using u))
   unfold vx at G ⊢;have H:b.find? (λs=>s.a.isSome&&decide (s.f.nm=q.f.nm))=some q:=by
    conv=>lhs;rw[<-List.take_append_drop (m+1) b]
    rw[List.find?_append,jq o,List.find?_append];have N:(b.take m).find? (λs=>s.a.isSome&&decide (s.f.nm=q.f.nm))=none:=by
     rw[List.find?_eq_none];intro s u;have:=qp h.h m q o s (by simpa using u);unfold xH at this;rw[c]at this;simp at this ⊢;exact this
    rw[N];simp[c]
   rw[H]
  rw[e];exact C
def Dg.b{n a ls}(h:Dg n a ls):M.Valid (ux ls a)↔¬Nw (ux ls a):=by
 rw[xZ];refine⟨λq=>q.2.1,λq=>⟨?_,q,h.m,h.l,h.p⟩⟩;show 0<(uE (ug a) ls a).length;have e:=zD List.length (qj ls a);rw[zN]at e;rw[e];exact List.length_pos_iff.2 h.ne
open M (TX uH qe jV je setT b1)
def kD Q v r b w(h:Cv Q w v r)(p:0<=b/\b<=255)(s:r.size<=16000000) :
  Cs 117 #[v,Iv b] w (BJ Q r (uH b) w):=by
 have H:Hid (zR Q w w v r):=zR.d h;have E:=p.1;have S:=p.2;have o:Hid (0<=b/\b<=255):=p;clear h p;by_cases k:b=10\/b=9\/b=13
 ·rcases k with rfl|rfl|rfl;all_goals
   go_enter func117,ntmps117;go_wp2_with (at_builtin;refine Mr rfl _ _ 9 rfl rfl rfl H.o (za _ _) 16000000 4 s dC oM dC ?_;intro W D x z e u f);go_ret;exact⟨_,rfl,e.o▸f.o⟩
 have g:¬b=10:=λq=>k oM
 have j:¬b=9:=λq=>k oM
 have i:¬b=13:=λq=>k oM
 have J:(b==10)=false:=by simp[g]
 have N:(b==9)=false:=by simp[j]
 have L:(b==13)=false:=by simp[i]
 by_cases a:b=92\/b=34\/b=91\/b=93\/b=45\/b=94
 ·have c:Hid (uH b=⟨#[92,UInt8.ofNat b.toNat]⟩):=by
   show _=_;unfold uH;rw[Zn g,Zn j,Zn i,Zp a]
  have m:Hid (Src prog 1 22 (Sl (Sm w.heap.size 0) 2 2) (uH b).size (bv (uH b)) (w.alloc (Oc #[Bv 92,Bv b] 5))):=by
   show Src _ _ _ _ _ _ _;rw[c.o];exact Vj w ⟨#[92,UInt8.ofNat b.toNat]⟩ 2 2 rfl (by simp only[bv,Er,Gl,Vm o.o];rfl)
  clear c g j i J N L o k;rcases a with rfl|rfl|rfl|rfl|rfl|rfl;all_goals
   go_enter func117,ntmps117;go_wp2_with (at_builtin;refine Mr (t:=uH _) rfl _ _ 22 rfl rfl rfl (H.o.q (wG w)) m.o 16000000 4 s (M.cW _) oM dC ?_;intro W D x z e u f);go_ret;exact⟨_,rfl,e.o▸f.o⟩
 have ac:(b==92)=false:=by simp;exact λq=>a oM
 have Z:(b==34)=false:=by simp;exact λq=>a oM
 have ab:(b==91)=false:=by simp;exact λq=>a oM
 have ad:(b==93)=false:=by simp;exact λq=>a oM
 have aa:(b==45)=false:=by simp;exact λq=>a oM
 have ae:(b==94)=false:=by simp;exact λq=>a oM
 by_cases l:32<=b/\b<=126
 ·have c:Hid (uH b=⟨#[UInt8.ofNat b.toNat]⟩):=by
   show _=_;unfold uH;rw[Zn g,Zn j,Zn i,Zn a,Zp l]
  have P:=l.1;have R:=l.2;have Y:=OG o.o;have m:Hid (Src prog 1 22 (Sl (Sm w.heap.size 0) 1 1) (uH b).size (bv (uH b)) (w.alloc (Oc #[Bv b] 5))):=by
   show Src _ _ _ _ _ _ _;rw[c.o];exact Vj w ⟨#[UInt8.ofNat b.toNat]⟩ 1 1 rfl (by simp only[bv,Er,Gl,Vm o.o])
  have n:Hid ((uH b).size=1):=by show _=_;rw[c.o];rfl
  clear g j i a l;go_enter func117,ntmps117;go_wp2_with (at_builtin;refine Mr (t:=uH b) rfl _ _ 22 rfl rfl rfl (H.o.q (wG w)) m.o 16000000 4 s (by rw[n.o];omega) oM (by rw[n.o];omega) ?_;intro W D x z e u f);go_ret;exact⟨_,rfl,e.o▸f.o⟩
 have c:Hid (uH b=⟨#[92,120,qe (b / 16),qe (b%16)]⟩):=by
  show _=_;unfold uH;rw[Zn g,Zn j,Zn i,Zn a,Zn l]
 have U:b.tdiv 16=b / 16:=Int.tdiv_eq_ediv_of_nonneg E;have T:b.tmod 16=b%16:=Int.tmod_eq_emod_of_nonneg E;have F:=OF (q:=b / 16) ⟨oM,oM⟩;have hi2:=OF (q:=b%16) ⟨oM,oM⟩;have V:IntKind.i64.wrap (b / 16)=b / 16:=by simp[IntKind.wrap,IntKind.bits,IntKind.signed];omega
 have X:IntKind.i64.wrap (b%16)=b%16:=by simp[IntKind.wrap,IntKind.bits,IntKind.signed];omega
 unfold Vk at F hi2;obtain⟨G,B⟩:∃d:Int,((qe (b / 16)).toNat:Int)=d:=⟨_,rfl⟩;obtain⟨I,C⟩:∃d:Int,((qe (b%16)).toNat:Int)=d:=⟨_,rfl⟩;rw[B]at F;rw[C]at hi2;have m:Hid (∀w:Wl,Src prog 1 22 (Sl (Sm w.heap.size 0) 4 4) (uH b).size (bv (uH b)) (w.alloc (Oc #[Bv 92,Bv 120,Bv G,Bv I] 5))):=λw=>by
  rw[c.o];exact Vj w ⟨#[92,120,qe (b / 16),qe (b%16)]⟩ 4 4 rfl (by rw[<-B,<-C];rfl)
 have n:Hid ((uH b).size=4):=by show _=_;rw[c.o];rfl
 clear B C;generalize b / 16=q1 at *;generalize b%16=q2 at *;have A:32<=b/\¬b<=126\/¬32<=b:=oM;clear g j i a l k;rcases A with⟨A,O⟩|A;all_goals
  go_enter func117,ntmps117;go_wp2;go_region_law (refine OD (t:=uH b) rfl (.tmp 41) (.tmp 48) 22 rfl (v:=v) (y:=Sl (Sm w.heap.size 0) 4 4) (by simp[Act.eval,Act.put]) (by simp[Act.eval,Act.put]) (H.o.q (wG w).drew) (m.o w.drew) 16000000 4 s (by rw[n.o];omega) oM (by rw[n.o];omega) ?_;intro W D x z e u f);all_goals go_goals
  all_goals go_wp2
  all_goals go_ret
  all_goals exact⟨_,rfl,e.o▸f.o⟩
def zc Q Q' a r n m c u S T w(h:wB Q .i64 w a n S)(v:wB Q' .i64 w r m T)(D:n<=1048576) :
  Cs 116 #[Sl a n c,Sl r m u] w (yz (n=m/\∀i,i<n->S i=T i) w):=by
 have H:=ua h;have H':=ua v;by_cases e:n=m
 ·subst e;go_enter func116,ntmps116;go_wp2;go_loopw [13] (λo wr=>zh w n S T o wr) (λo _=>n-(intOf o).toNat)
  ·exact⟨0,wP,rfl,λi s=>aB s Ct,wI _⟩
  obtain⟨k,C,rfl,A,x⟩:=hrel;have p:=ua A;have d:=ua x;by_cases j:k<n
  ·rcases H.o with q|⟨b,off,rfl,E,y⟩
   ·omega
   rcases H'.o with q|⟨B,G,rfl,F,z⟩
   ·omega
   have I:=ue (y k j) d;have J:=ue (z k j) d;by_cases l:S k=T k
   ·have g:Hid (S k=T k):=l;go_wp2;go_region;go_wp2;go_roundw
    ·exact⟨k+1,oM,by go_num,λi s=>if e:i=k then e▸g.o else p i oM,d.drew⟩
    simp[intOf];omega
   have g:Hid (¬S k=T k):=l;have f:(S k != T k)=true:=(by simp[l]);go_wp2;go_region;go_wp2;go_ret;refine⟨⟨_,rfl,?_⟩,d.drew⟩;constructor
   ·intro q;cases q
   rintro⟨_,q⟩;exact aB (q k j) g
  obtain rfl:k=n:=oM;go_wp2;go_ret;exact⟨⟨_,rfl,λ_=>⟨by trivial,p⟩,λ_=>rfl⟩,d⟩
 have f:((n:Int) != (m:Int))=true:=sO;have t:=ua e;go_enter func116,ntmps116;go_wp2;go_ret;refine⟨⟨_,rfl,?_⟩,wI _⟩;constructor
 ·intro q;cases q
 rintro⟨q,_⟩;exact aB q t
def zd args w:(callFunc 117 args).run prog w=.ok (.enter 117 args) w:=by
 simp[callFunc,func117,f117,go_sem]
def zg Q Qs a n c S v r w(h:Cv Q w v r)(hS:wB Qs .i64 w a n S)(hq:Hb Qs Q w)(hC:M.bL n S)(hr:r.size<=15000000) :
  Cs 77 #[v,Sl a n c] w (BJ Q r (setT n S) w):=by
 have H:=ua (zR.d h);have HS:=ua hS;have HQ:=ua hq;have HC:=ua hC;have hn:=M.dR hC;obtain⟨F,vc,hv⟩:=h.a;have a1:=hC.1;clear h hS hq hC;subst hv;have P:Hid (∀(W:Wl) (x:UInt8) (z:Int),z=(x.toNat:Int)->Src prog 1 22 (Sl (Sm W.heap.size 0) 1 1) (b1 x).size (bv (b1 x)) (W.alloc (Oc #[Bv z] 5))):=λW x z hz=>Vj W (b1 x) 1 1 rfl (by subst hz;rfl)
 have B1:Hid (Bw w (w.alloc (Oc #[Iv 0,Iv 255] 3))):=wG w;have T2:Hid (wB (λ_=>True) .i64 (w.alloc (Oc #[Iv 0,Iv 255] 3)) (Sm w.heap.size 0) 2 (λi=>if i=0 then 0 else 255)):=.inr ⟨w.heap.size,0,rfl,trivial,λi j=>by
  rcases(show i=0\/i=1 by omega) with rfl|rfl
  ·exact cN w.heap.size rfl rfl
  exact cN w.heap.size rfl rfl⟩
 obtain⟨C,h2⟩:=nm (decide (n=2/\S 0=S 1));have ab:=ua h2;have T:Hid (∀N:Bool,(N=true↔(n=2/\S 0=0/\S 1=255))->setT n S=if N then b1 46 else if C then b1 34++uH (S 0)++b1 34 else b1 91++je S (n / 2)++b1 93):=λN h=>by rw[<-h2];unfold setT;simp only[decide_eq_true_eq,h]
 clear h2;go_enter func77,ntmps77;go_wp2_with fail;refine(zc Qs (λ_=>True) a (Sm w.heap.size 0) n 2 c 2 S (λi=>if i=0 then 0 else 255) _ (HS.q B1) T2 oM).mono ?_;rintro e W1 ⟨⟨b,rfl,hb⟩,ai⟩;have O:=ua (uf B1 ai);replace T:=ua (T.o b (by
  rw[hb];constructor
  ·rintro⟨N,C⟩;subst N;exact⟨rfl,by simpa using C 0 oM,by simpa using C 1 oM⟩
  rintro⟨N,C,q3⟩;refine⟨N,λi j=>?_⟩;rcases(show i=0\/i=1 by omega) with rfl|rfl
  ·simpa using C
  simpa using q3))
 clear hb ai T2 B1;cases b with
 |true =>
  have R:=ua (H.o.q O.o);go_wp2_with (at_builtin;refine Mr (t:=b1 46) rfl _ _ 22 rfl rfl rfl (R.o.q (wG W1)) (P.o W1 46 46 rfl) 15000000 4 hr dC oM dC ?_;intro W D J L A G l);go_ret;exact⟨_,rfl,by rw[T.o];exact A.o▸l.o⟩
 |false =>
 have CL:Hid (∀i,i<n->∃o E,a=some (Ad o E)/\¬Q o/\w.cell? (Ad o (E+i))=some (Iv (S i))):=λi j=>by
  rcases HS.o with q|⟨o,E,e,hq,V⟩
  ·omega
  exact⟨o,E,e,(HQ.o o hq).1,V i j⟩
 go_upto_region 3 with fail;go_cut [25] (λv wc=>v=.bool C/\Bw w wc)
 case first =>
  by_cases ak:n=2
  ·subst ak;obtain⟨o,E,rfl,_,B⟩:=CL.o 0 oM;obtain⟨_,_,e,_,Y⟩:=CL.o 1 oM;cases e;have x0:=ue B O.o;have X:=ue Y O.o;simp only[Cc]at x0;have HF:Hid (C=(S 0==S 1)):=(by show _=_;rw[<-ab.o,Nf];simp);clear B Y;go_region;all_goals
    go_wp2;go_meet;exact⟨by rw[HF.o],O.drew⟩
  have f:((n:Int)==2)=false:=sO;go_region;all_goals
   go_wp2;go_meet;exact⟨by rw[<-ab.o];simp[ak],O.o.drew⟩
 case rest =>
 obtain⟨rfl,Z⟩:=hcut;have R:=ua (H.o.q Z);clear O;cases C with
 |true =>
  obtain⟨rfl,aw⟩:=of_decide_eq_true ab.o;obtain⟨o,E,rfl,al,B⟩:=CL.o 0 oM;simp only[Cc]at B;have x0:=ue B Z;have an:=ud x0;have C0:=ua B;have au:=ua al;have ao:=ua (Vn HC.o (k:=0) oM).1;have av:Hid ((uH (S 0)).size<=4):=M.cW _;clear Z aw B al;go_upto_region 4 with fail;go_region_law (first
   |(refine OD (t:=b1 34) rfl (.tmp 26) (.tmp 27) 22 rfl (v:=Sl F r.size vc) (y:=Sl (Sm wc.heap.size 0) 1 1) (by simp[Act.eval,Act.put]) (by simp[Act.eval,Act.put]) (R.o.q (wG wc).drew) (P.o wc.drew 34 34 rfl) 15000000 4 hr dC oM dC ?_;intro W D J L A G l;have y0:W.cell? (Ad o E)=some (Iv (S 0)):=(l.o.m.p (p:=(Ad o E)) (ud C0.o) au.o).trans C0.o)
   |(refine ul9 zd rfl (.tmp 28) (.tmp 31) 22 3 rfl (y1:=Sl J D.size L) (y2:=Iv (S 0)) (by simp[Act.eval,Act.put]) (by simp[Act.eval,Act.put]) ((l.o.b (λQ' ho a4=>kD Q' (Sl J D.size L) D (S 0) W ho ao.o (oH G.o))).mono ?_);rintro e W2 ⟨a2,c2,r2,rfl,F1,F2,F3⟩;refine⟨_,rfl,?_⟩))
  all_goals go_goals
  all_goals go_wp2_with (at_builtin;refine Mr (t:=b1 34) rfl _ _ 22 rfl rfl rfl (F3.o.q (wG W2)) (P.o W2 34 34 rfl) 15000010 4 (by have:=F2.o;have:=G.o;have:=av.o;omega) dC oM dC ?_;intro W3 r3 a3 c3 G1 G2 G3)
  all_goals go_ret
  all_goals exact⟨_,rfl,by rw[T.o];show zR _ _ _ _ (r++(b1 34++uH (S 0)++b1 34));rw[<-Na,<-Na,<-A.o,<-F1.o,<-G1.o];exact G3⟩
 |false =>
 clear Z;go_wp2_with (at_builtin;refine Mr (t:=b1 91) rfl _ _ 22 rfl rfl rfl (R.q (wG wc)) (P wc 91 91 rfl) 15000000 4 hr dC oM dC ?_;intro W D J L A G l);go_loopw [0,5] (λov iv wr=>OH Q w r S n ov iv wr) (λ_ iv _=>n-(intOf iv).toNat)
 ·exact⟨0,D,oM,rfl,by rw[A.o,je,Oi],l⟩
 obtain⟨k,s,hk,rfl,hs,hg⟩:=hrel;obtain⟨oa,oc,rfl⟩:=hg.a;have HG:=ua hg;have af:=ua hs;have ay:s.size<=15002000:=by
  have h3:=M.fB S k;rw[hs,Ft,Ft,M.cU];omega
 clear hs hg A G l R;by_cases ax:2*k<n
 rotate_left
 ·have ap:Hid (k=n / 2):=by show _=_;omega
  go_wp2_with (at_builtin;refine Mr (t:=b1 93) rfl _ _ 22 rfl rfl rfl (HG.o.q (wG wr)) (P.o wr 93 93 rfl) 15002000 4 ay dC oM dC ?_;intro W D J L A G l);go_ret;exact⟨_,rfl,by rw[T.o,<-ap.o];show zR _ _ _ _ (r++(b1 91++je S k++b1 93));rw[<-Na,<-Na,<-af.o,<-A.o];exact l.o⟩
 obtain⟨aa,ah⟩:=Vn HC.o (k:=k) oM;rcases HS.o.on (HQ.o.a HG.o) with q|⟨o,E,rfl,_,V⟩
 ·omega
 have B:=V (2*k) ax;have Y:=V (2*k+1) oM;have an:=ud B;have t1:=M.cW (S (2*k));have aq:Hid (je S (k+1)=je S k++jV (S (2*k)) (S (2*k+1))):=rfl;have a0:2*k+1<n:=oM;have BT:Hid (∀(x:Int) (W:Wl) (F:Oa) (vc:Nat) (u:ByteArray),x=S (2*k)\/x=S (2*k+1)->zR Q w W (Sl F u.size vc) u->u.size<=16000000->Cs 117 #[Sl F u.size vc,Iv x] W (λe w'=>∃a c r,e=Rt (Sl a r.size c)/\Hid (r=u++uH x)/\Hid (r.size=u.size+(uH x).size)/\Hid (zR Q w w' (Sl a r.size c) r))):=λx W F vc u hx g hu=>g.b (λQ' ho _=>kD Q' _ u x W ho (by rcases hx with rfl|rfl;exact aa;exact ah) hu)
 have k0:=aa.1;have k1:=aa.2;clear V aa ah;generalize S (2*k)=lo at *;generalize S (2*k+1)=j at *;generalize aj:2*k=kk at *;have ae:=ua aj;clear aj;have B0:=ua (BT.o lo wr.drew oa oc s (.inl rfl) (HG.o.q (wI wr).drew) oM);go_wp2;go_region;go_wp2_with fail;refine B0.mono ?_;rintro e W2 ⟨a2,c2,u,rfl,U1,U2,U3⟩;have az:u.size<=15002004:=oH U2.o;obtain⟨X,ac⟩:=nm (if lo+1<j then b1 45 else ByteArray.empty);obtain⟨x2,ad⟩:=nm (if lo<j then uH j else ByteArray.empty);have HP:Hid (s++jV lo j=u++X++x2):=by show _=_;rw[U1.o,<-ac,<-ad];unfold jV;simp only[Na]
 have X1:=ua ac;have X2:=ua ad;clear ac ad B Y;go_upto_if 60 with fail;go_cut [0] (λv wc=>∃a c y,v=Sl a y.size c/\y=u++X/\y.size<=15002008/\zR Q w wc (Sl a y.size c) y)
 case first =>
  by_cases U:lo+1<j
  ·have I:Hid (X=b1 45):=(by show _=_;rw[<-X1.o,Zp U]);go_wp2_with (at_builtin;refine Mr (t:=b1 45) rfl _ _ 22 rfl rfl rfl (U3.q (wG W2)) (P W2 45 45 rfl) 15002004 4 az dC oM dC ?_;intro W D J L A G l);go_meet;exact⟨J,L,D,rfl,by rw[A.o,I.o],G,l⟩
  have I:Hid (X=ByteArray.empty):=by show _=_;rw[<-X1.o,Zn U]
  go_wp2;go_meet;exact⟨a2,c2,u,rfl,by rw[I.o,Oi],oM,U3⟩
 case rest =>
 obtain⟨a3,c3,y,rfl,hy,a6,am⟩:=hcut;have ag:=ua am;have HN:Hid (∀z F wr,z=y++x2->zR Q w wr F z->OH Q w r S n F (Iv ((kk:Int)+2)) wr):=λz F wr hz g=>⟨k+1,z,by have:=ae.o;omega,by have:=ae.o;congr 1;omega,by rw[hz,hy,aq.o,<-Na,<-af.o,HP.o],g⟩
 clear hy am an;by_cases U:lo<j
 ·have I:Hid (x2=uH j):=by show _=_;rw[<-X2.o,Zp U]
  have B4:=ua (BT j wc a3 c3 y (.inr rfl) ag oM);go_wp2_with fail;refine B4.mono ?_;rintro e W5 ⟨a5,c5,r5,rfl,F1,_,F3⟩;have HR:=ua (HN r5 _ W5 (by rw[F1.o,I.o]) F3);go_wp2;go_roundw
  ·exact HR
  simp[intOf];omega
 have I:Hid (x2=ByteArray.empty):=by show _=_;rw[<-X2.o,Zn U]
 have HR:=ua (HN y _ wc (by rw[I.o,Oi]) ag);go_wp2;go_roundw
 ·exact HR
 simp[intOf];omega
end Go.Proofs.YtoihadcablknpaaGreatDoor
