import Derived.Test.YthicmmhmmfhncaaGreatT41
import Derived.Test.YthicmmhmmfhncaaGreatT38
set_option linter.unusedVariables false
set_option linter.unusedSimpArgs false
namespace Go.Proofs.YthicmmhmmfhncaaGreat
section
open Go.RowKit
open M (OpD uj Gr TX uq xP uO vS yV b1 grp)
theorem ufe{c:Int}{k:Nat}(hk:k<16)(h:c=ucE k∨c=uiT k):ucc c=some k:=by
 unfold ucE uiT at h;unfold ucc;by_cases h10:k<10
 ·simp only[if_pos h10,or_self]at h
  rw[if_pos (by omega)]
  congr 1;omega
 ·simp only[if_neg h10]at h
  rcases h with h | h
  ·rw[if_neg (by omega),if_pos (by omega)]
   congr 1;omega
  ·rw[if_neg (by omega),if_neg (by omega),if_pos (by omega)]
   congr 1;omega
def bl(s:ByteArray):List Int:=s.data.toList.map (fun b=>(b.toNat:Int))
theorem vi(a b:ByteArray):bl (a++b)=bl a++bl b:=by simp[bl,ByteArray.data_append]
theorem umE(s:ByteArray):(bl s).length=s.size:=by rw[bl,List.length_map,Array.length_toList];rfl
def AtB(t:Tx)(i:Nat)(s:List Int):Prop:=i+s.length≤t.n∧∀k x,s[k]? = some x→t.T (i+k)=x
theorem AtB.app{t:Tx}{i:Nat}{a b:List Int}(h:AtB t i (a++b)):AtB t i a∧AtB t (i+a.length) b:=by
 obtain⟨h1,h2⟩:=h;rw[List.length_append]at h1;refine⟨⟨by omega,fun k x hx=>h2 k x ?_⟩,by omega,fun k x hx=>?_⟩
 ·rw[List.getElem?_append_left (List.getElem?_eq_some_iff.1 hx).1];exact hx
 ·rw[Nat.add_assoc]
  refine h2 _ _ ?_;rw[List.getElem?_append_right (by omega),Nat.add_sub_cancel_left]
  exact hx
theorem AtB.head{t:Tx}{i:Nat}{x:Int}{r:List Int}(h:AtB t i (x::r)):i<t.n∧t.T i=x∧AtB t (i+1) r:=by
 obtain⟨h1,h2⟩:=h;rw[List.length_cons]at h1;refine⟨by omega,by simpa using h2 0 x rfl,by omega,fun k y hy=>?_⟩
 rw[show i+1+k=i+(k+1) by omega]
 exact h2 (k+1) y (by simpa using hy)
theorem uff(t:Tx):∀f g i,t.n-i<f→t.n-i<g→xi t f i=xi t g i
 |0,_,_,h,_=>absurd h (by omega)
 |_+1,0,_,_,h=>absurd h (by omega)
 |f+1,g+1,i,hf,hg=>by
  rw[xi,xi];split
  ·rename_i hi
   split
   ·rfl
   ·rename_i h0
    have hn:=uce t hi h0;have hs:=qN t (vM t i).2;rw[uff t f g _ (by omega) (by omega)]
  ·rfl
def tkE(t:Tx)(i:Nat):List Tok:=xi t (t.n+1) (vh t i)
theorem ua4{t:Tx}{i j:Nat}{k:Tok}(hi:i<t.n)(hw:¬wsP (t.T i))(h35:t.T i≠35)(h:vM t i=(k,j))(h0:k.kind≠0):tkE t i=k::tkE t j:=by
 unfold tkE;have e:vh t i=i:=by rw[qL,if_pos hi,if_neg hw,if_neg h35]
 have hn:=uce t hi (by rw[h];exact h0)
 rw[e,xi,if_pos hi,h];rw[h]at hn;simp only at hn ⊢;rw[if_neg h0]
 congr 1
 have:=qN t j;exact uff t _ _ _ (by omega) (by omega)
theorem umF{t:Tx}{i:Nat}(hi:i<t.n)(hw:wsP (t.T i)):tkE t i=tkE t (i+1):=by
 unfold tkE;rw[qL,if_pos hi,if_pos hw]
theorem ucn{t:Tx}{i:Nat}(hi:i<t.n)(hw:t.T i=32):tkE t i=tkE t (i+1):=umF hi (.inl hw)
theorem un3{t:Tx}{i:Nat}(hi:t.n≤i):tkE t i = []:=by
 unfold tkE;have:=qN t i;rw[xi,if_neg (by omega)]
theorem xK{t:Tx}{i:Nat}{c:Int}(hi:i<t.n)(hc:t.T i=c)(hm:c∈kX):tkE t i=⟨c,i,[],[]⟩::tkE t (i+1):=by
 subst hc;have H:¬M.Letter (t.T i)∧t.T i≠34∧t.T i≠91∧¬wsP (t.T i)∧t.T i≠35∧t.T i≠0:=by
  simp only[kX,List.mem_cons,List.not_mem_nil,or_false]at hm;unfold M.Letter wsP;omega
 obtain⟨h1,h2,h3,h4,h5,h6⟩:=H;refine ua4 hi h4 h5 ?_ h6;unfold vM;rw[if_neg h1,if_neg h2,if_neg h3,if_pos hm]
theorem ug7(t:Tx):∀(z:List Int) (f j:Nat) (acc:List Int),AtB t j z→(∀y∈z,yv y)→j+z.length<t.n→¬yv (t.T (j+z.length))→z.length<f→vj t f j acc=(acc++z,j+z.length)
 | [],0,j,acc,h,hc,hl,hn,hf=>absurd hf (by simp)
 | [],f+1,j,acc,h,hc,hl,hn,hf=>by
  rw[vj,if_neg (fun q=>hn q.2)]
  simp
 |x::r,0,j,acc,h,hc,hl,hn,hf=>absurd hf (by simp)
 |x::r,f+1,j,acc,h,hc,hl,hn,hf=>by
  obtain⟨h1,h2,h3⟩:=h.head;rw[List.length_cons]at hl hn hf;rw[vj,if_pos ⟨h1,by rw[h2];exact hc x (List.mem_cons_self ..)⟩,h2,ug7 t r f (j+1) (acc++[x]) h3 (fun y hy=>hc y (List.mem_cons_of_mem _ hy)) (by omega) (by rw[show j+1+r.length=j+(r.length+1) by omega];exact hn) (by omega)]
  rw[List.length_cons,List.append_assoc,List.singleton_append,show j+1+r.length=j+(r.length+1) by omega]
theorem uea{t:Tx}{i:Nat}{z:List Int}(h:AtB t i z)(hc:∀y∈z,yv y)(hl:∃x r,z=x::r∧M.Letter x)(he:i+z.length<t.n)(hn:¬yv (t.T (i+z.length))):tkE t i=⟨110,i,z,[]⟩::tkE t (i+z.length):=by
 obtain⟨x,r,e,hx⟩:=hl;have h':=h;rw[e]at h';obtain⟨h1,h2,_⟩:=h'.head;have hx':=hx;rw[←h2]at hx';have H:¬wsP (t.T i)∧t.T i≠35:=by
  unfold M.Letter at hx';unfold wsP;omega
 refine ua4 h1 H.1 H.2 ?_ (by show (110:Int)≠0;omega)
 unfold vM;rw[if_pos hx',ug7 t z _ i [] h hc he hn (by omega),List.nil_append]
theorem u8n{b:Int}(h:0≤b∧b≤255):((UInt8.ofNat b.toNat).toNat:Int)=b:=by
 rw[UInt8.toNat_ofNat'];omega
theorem ujp{v:Int}(h:0≤v∧v≤15):((xP v).toNat:Int)=ucE v.toNat:=by
 unfold xP ucE;by_cases e:v<10
 ·rw[if_pos e,if_pos (by omega),UInt8.toNat_ofNat']
  omega
 ·rw[if_neg e,if_neg (by omega),UInt8.toNat_ofNat']
  omega
theorem ufg{b:Int}(hb:0≤b∧b≤255):(bl (uq b) = [92,110]∧b=10)∨(bl (uq b) = [92,116]∧b=9)∨(bl (uq b) = [92,114]∧b=13)∨(bl (uq b) = [92,b]∧ucd b)∨(bl (uq b) = [b]∧32≤b∧b≤126∧¬ucd b)∨bl (uq b) = [92,120,ucE (b / 16).toNat,ucE (b%16).toNat]:=by
 unfold uq;by_cases h1:b=10
 ·rw[if_pos h1];exact .inl ⟨rfl,h1⟩
 rw[if_neg h1];by_cases h2:b=9
 ·rw[if_pos h2];exact .inr (.inl ⟨rfl,h2⟩)
 rw[if_neg h2];by_cases h3:b=13
 ·rw[if_pos h3];exact .inr (.inr (.inl ⟨rfl,h3⟩))
 rw[if_neg h3];by_cases h4:b=92∨b=34∨b=91∨b=93∨b=45∨b=94
 ·rw[if_pos h4]
  refine .inr (.inr (.inr (.inl ⟨?_,h4⟩)));show [((92:UInt8).toNat:Int),((UInt8.ofNat b.toNat).toNat:Int)]=_;rw[u8n hb];rfl
 rw[if_neg h4];by_cases h5:32≤b∧b≤126
 ·rw[if_pos h5]
  refine .inr (.inr (.inr (.inr (.inl ⟨?_,h5.1,h5.2,h4⟩))));show [((UInt8.ofNat b.toNat).toNat:Int)]=_;rw[u8n hb]
 ·rw[if_neg h5]
  refine .inr (.inr (.inr (.inr (.inr ?_))));show [((92:UInt8).toNat:Int),((120:UInt8).toNat:Int),((xP (b / 16)).toNat:Int),((xP (b%16)).toNat:Int)]=_;rw[ujp (v:=b / 16) ⟨by omega,by omega⟩,ujp (v:=b%16) ⟨by omega,by omega⟩]
  rfl
theorem jJ{b:Int}(hb:0≤b∧b≤255):∃x r,bl (uq b)=x::r∧x≠45∧x≠93∧x≠94∧x≠34∧x≠10:=by
 rcases ufg hb with⟨e,_⟩|⟨e,_⟩|⟨e,_⟩|⟨e,_⟩|⟨e,h1,h2,h3⟩ | e
 ·exact⟨92,_,e,by omega,by omega,by omega,by omega,by omega⟩
 ·exact⟨92,_,e,by omega,by omega,by omega,by omega,by omega⟩
 ·exact⟨92,_,e,by omega,by omega,by omega,by omega,by omega⟩
 ·exact⟨92,_,e,by omega,by omega,by omega,by omega,by omega⟩
 ·unfold ucd at h3
  exact⟨b,_,e,by omega,by omega,by omega,by omega,by omega⟩
 ·exact⟨92,_,e,by omega,by omega,by omega,by omega,by omega⟩
theorem ua5{t:Tx}{i:Nat}{b:Int}(hb:0≤b∧b≤255)(h:AtB t i (bl (uq b)))(c:Bool):chr t i c=(b,(bl (uq b)).length):=by
 unfold chr;rcases ufg hb with⟨e,eb⟩|⟨e,eb⟩|⟨e,eb⟩|⟨e,eb⟩|⟨e,h1,h2,h3⟩ | e
 ·rw[e]at h ⊢
  obtain⟨a1,a2,a3⟩:=h.head;obtain⟨b1,b2,_⟩:=a3.head;rw[if_neg (by omega),if_pos a2]
  unfold esc;rw[if_neg (by omega),if_pos b2,eb]
  rfl
 ·rw[e]at h ⊢
  obtain⟨a1,a2,a3⟩:=h.head;obtain⟨b1,b2,_⟩:=a3.head;rw[if_neg (by omega),if_pos a2]
  unfold esc;rw[if_neg (by omega),if_neg (by omega),if_pos b2,eb]
  rfl
 ·rw[e]at h ⊢
  obtain⟨a1,a2,a3⟩:=h.head;obtain⟨b1,b2,_⟩:=a3.head;rw[if_neg (by omega),if_pos a2]
  unfold esc;rw[if_neg (by omega),if_neg (by omega),if_neg (by omega),if_pos b2,eb]
  rfl
 ·rw[e]at h ⊢
  obtain⟨a1,a2,a3⟩:=h.head;obtain⟨b1,b2,_⟩:=a3.head;rw[if_neg (by omega),if_pos a2]
  unfold esc;rw[b2];have q:=eb;unfold ucd at q;rw[if_neg (by omega),if_neg (by omega),if_neg (by omega),if_neg (by omega),if_pos eb]
  rfl
 ·rw[e]at h ⊢
  obtain⟨a1,a2,_⟩:=h.head;unfold ucd at h3;rw[a2,if_neg (by omega),if_neg (by omega),if_neg (by omega),if_neg (by omega)]
  rfl
 ·rw[e]at h ⊢
  obtain⟨a1,a2,a3⟩:=h.head;obtain⟨b1,b2,b3⟩:=a3.head;obtain⟨c1,c2,c3⟩:=b3.head;obtain⟨d1,d2,_⟩:=c3.head;have x1:qf (t.T (i+2))=((b / 16).toNat:Int):=by
   rw[show i+2=i+1+1 by omega,c2]
   exact qJ (ufe (by omega) (.inl rfl))
  have x2:qf (t.T (i+3))=((b%16).toNat:Int):=by
   rw[show i+3=i+1+1+1 by omega,d2]
   exact qJ (ufe (by omega) (.inl rfl))
  rw[if_neg (by omega),if_pos a2]
  unfold esc;rw[b2,x1,x2,if_neg (by omega),if_neg (by omega),if_neg (by omega),if_neg (by omega),if_neg (by unfold ucd;omega),if_pos ⟨rfl,by omega,by omega,by omega⟩]
  have:((b / 16).toNat:Int)*16+((b%16).toNat:Int)=b:=by omega
  rw[this];rfl
theorem qS{b:Int}(hb:0≤b∧b≤255):0<(bl (uq b)).length:=by
 obtain⟨x,r,e,_⟩:=jJ hb;rw[e];exact Nat.succ_pos _
theorem ukI{t:Tx}{i:Nat}(h:AtB t i [34,34]):tkE t i=⟨34,i,[],[]⟩::tkE t (i+2):=by
 obtain⟨a1,a2,a3⟩:=h.head;obtain⟨b1,b2,_⟩:=a3.head;refine ua4 a1 (by unfold wsP;omega) (by omega) ?_ (by show (34:Int)≠0;omega)
 unfold vM;have e:qY t i=some ([],i+2):=by
  unfold qY;rw[show t.n-i=(t.n-i-1)+1 by omega,qg,if_pos ⟨b1,b2⟩]
 rw[if_neg (by unfold M.Letter;omega),if_pos a2,e]
theorem umG{t:Tx}{i:Nat}{b:Int}(hb:0≤b∧b≤255)(h:AtB t i ([34]++bl (uq b)++[34])):tkE t i=⟨34,i,[b],[]⟩::tkE t (i+((bl (uq b)).length+2)):=by
 obtain⟨h',h3⟩:=h.app;obtain⟨h1,h2⟩:=h'.app;obtain⟨a1,a2,_⟩:=h1.head;obtain⟨c1,c2,_⟩:=h3.head;have hp:=qS hb;have hc:=ua5 hb h2 false;simp only[List.length_append,List.length_singleton]at c1 c2 h2 hc;obtain⟨x,r,e,n1,n2,n3,n4,n5⟩:=jJ hb;have hx:=h2;rw[e]at hx;obtain⟨d1,d2,_⟩:=hx.head;refine ua4 a1 (by unfold wsP;omega) (by omega) ?_ (by show (34:Int)≠0;omega)
 unfold vM;have es:qY t i=some ([b],i+((bl (uq b)).length+2)):=by
  unfold qY;rw[show t.n-i=(t.n-i-2)+1+1 by omega,qg,if_neg (by rw[d2];omega),hc,if_neg (by show ¬(bl (uq b)).length=0;omega),qg,if_pos ⟨by simp only;omega,by simp only;rw[show i+1+(bl (uq b)).length=i+(1+(bl (uq b)).length) by omega];exact c2⟩]
  simp only[List.nil_append];rw[show i+1+(bl (uq b)).length+1=i+((bl (uq b)).length+2) by omega]
 rw[if_neg (by unfold M.Letter;omega),if_pos a2,es]
end
section
open Go.RowKit
open M (OpD uj Gr TX uq xP uO vS yV b1 grp)
theorem qx(S:Nat→Int)(b:Int):∀m,ua2 S b m=true↔∃k,k<m∧S (2*k)≤b∧b≤S (2*k+1)
 |0=>by simp[ua2]
 |m+1=>by
  rw[ua2,Bool.or_eq_true,qx S b m];constructor
  ·rintro (⟨k,h1,h2⟩ | h)
   ·exact⟨k,by omega,h2⟩
   ·simp at h
    exact⟨m,by omega,h⟩
  ·rintro⟨k,h1,h2⟩
   by_cases e:k=m
   ·subst e;right;simp;exact h2
   ·exact .inl ⟨k,by omega,h2⟩
theorem ufh{n:Nat}{S:Nat→Int}(h:M.Canon n S):∀(d j:Nat),2*(j+d+1)+1<n→S (2*j+1)+2≤S (2*(j+d+1))
 |0,j,hn=>by
  have:=(h.2 (2*(j+1)) (by omega)).2.2.2 ⟨by omega,by omega⟩
  rw[show 2*(j+1)-1=2*j+1 by omega]at this
  exact this
 |d+1,j,hn=>by
  have h1:=ufh h d j (by omega)
  have h2:=(h.2 (2*(j+d+1)+1) (by omega)).2.2.1 (by omega)
  have h3:=(h.2 (2*(j+(d+1)+1)) (by omega)).2.2.2 ⟨by omega,by omega⟩
  rw[show 2*(j+d+1)+1-1=2*(j+d+1) by omega]at h2
  rw[show 2*(j+(d+1)+1)-1=2*(j+d+1)+1 by omega]at h3
  omega
theorem ua6{n:Nat}{S:Nat→Int}(h:M.Canon n S){j k:Nat}(hjk:j<k)(hk:2*k+1<n):S (2*j+1)+2≤S (2*k):=by
 obtain⟨d,rfl⟩:∃d,k=j+d+1:=⟨k-j-1,by omega⟩
 exact ufh h d j hk
theorem jK{n:Nat}{S:Nat→Int}(h:M.Canon n S){k:Nat}(hk:2*k+1<n):0≤S (2*k)∧S (2*k)≤S (2*k+1)∧S (2*k+1)≤255:=by
 have h1:=h.2 (2*k) (by omega)
 have h2:=h.2 (2*k+1) (by omega)
 have h3:=h2.2.2.1 (by omega)
 rw[show 2*k+1-1=2*k by omega]at h3
 exact⟨h1.1,h3,h2.2.1⟩
theorem jf{n m:Nat}{S R:Nat→Int}(h:M.Canon n S)(h':M.Canon m R)(he:∀c:Nat,c<256→jI n S c=true→jI m R c=true){k:Nat}(hs:∀i,i<2*k→S i=R i)(hk:2*k<n):2*k<m∧R (2*k)≤S (2*k):=by
 have hn:=h.1;have hm:=h'.1;have h1:=jK h (k:=k) (by omega)
 have q:=he (S (2*k)).toNat (by omega) ((qx S _ _).2 ⟨k,by omega,by omega,by omega⟩)
 obtain⟨j,j1,j2,j3⟩:=(qx R _ _).1 q;have h2:k≤j:=by
  rcases Nat.lt_or_ge j k with l | l
  ·have:=ua6 h l (by omega)
   rw[←hs (2*j+1) (by omega)]at j3
   omega
  ·exact l
 refine⟨by omega,?_⟩
 by_cases e:j=k
 ·subst e;omega
 ·have a:=ua6 h' (show k<j by omega) (by omega)
  have b:=jK h' (k:=k) (by omega)
  omega
theorem ucJ{n m:Nat}{S R:Nat→Int}(h:M.Canon n S)(h':M.Canon m R)(he:∀c:Nat,c<256→jI m R c=true→jI n S c=true){k:Nat}(hk:2*k<n)(hk':2*k<m)(e0:S (2*k)=R (2*k)):R (2*k+1)≤S (2*k+1):=by
 have hn:=h.1;have hm:=h'.1;have h1:=jK h (k:=k) (by omega)
 have h2:=jK h' (k:=k) (by omega)
 by_cases l:R (2*k+1)≤S (2*k+1)
 ·exact l
 ·have q:=he (S (2*k+1)+1).toNat (by omega) ((qx R _ _).2 ⟨k,by omega,by omega,by omega⟩)
  obtain⟨j,j1,j2,j3⟩:=(qx S _ _).1 q;rcases Nat.lt_trichotomy j k with q | q | q
  ·have:=ua6 h q (by omega);omega
  ·subst q;omega
  ·have:=ua6 h q (by omega);omega
theorem ueb{n m:Nat}{S R:Nat→Int}(h:M.Canon n S)(h':M.Canon m R)(he:∀c:Nat,c<256→jI n S c=jI m R c):∀d k,n-2*k≤d→2*k≤n→2*k≤m→(∀i,i<2*k→S i=R i)→n=m∧∀i,i<n→S i=R i
 |0,k,hd,h1,h2,hs=>by
  by_cases e:2*k<m
  ·have:=(jf h' h (fun c hc q=>by rw[he c hc];exact q) (fun i hi=>(hs i hi).symm) e).1
   omega
  ·exact⟨by omega,fun i hi=>hs i (by omega)⟩
 |d+1,k,hd,h1,h2,hs=>by
  have hn:=h.1;have hm:=h'.1;by_cases e:2*k<n
  ·have a:=jf h h' (fun c hc q=>by rw[←he c hc];exact q) hs e
   have b:=jf h' h (fun c hc q=>by rw[he c hc];exact q) (fun i hi=>(hs i hi).symm) a.1
   have e0:S (2*k)=R (2*k):=by omega
   have c:=ucJ h h' (fun c hc q=>by rw[he c hc];exact q) e a.1 e0
   have d':=ucJ h' h (fun c hc q=>by rw[←he c hc];exact q) a.1 e e0.symm
   refine ueb h h' he d (k+1) (by omega) (by omega) (by omega) (fun i hi=>?_)
   by_cases q:i<2*k
   ·exact hs i q
   ·by_cases q':i=2*k
    ·subst q';exact e0
    ·obtain rfl:i=2*k+1:=by omega
     omega
  ·by_cases e':2*k<m
   ·have:=(jf h' h (fun c hc q=>by rw[he c hc];exact q) (fun i hi=>(hs i hi).symm) e').1
    omega
   ·exact⟨by omega,fun i hi=>hs i (by omega)⟩
def SL(n:Nat)(S:Nat→Int):List Int:=(List.range n).map S
theorem jn(n:Nat)(S:Nat→Int):(SL n S).length=n:=by simp[SL]
theorem ua7{n:Nat}{S:Nat→Int}{i:Nat}(h:i<n):lf (SL n S) i=S i:=by
 unfold lf SL;rw[List.getD_eq_getElem?_getD,List.getElem?_map,List.getElem?_range h];rfl
theorem upw{n:Nat}{S:Nat→Int}(h:M.Canon n S){m:Nat→Bool}(he:∀c:Nat,c<256→m c=jI n S c):rg m 256=SL n S:=by
 obtain⟨h1,h2⟩:=ueb h (ugr m) (fun c hc=>by rw[upv m hc,he c hc]) n 0 (by omega) (by omega) (by omega) (fun i hi=>by omega)
 refine List.ext_getElem? (fun i=>?_)
 by_cases hi:i<n
 ·have e1:(rg m 256)[i]? = some (lf (rg m 256) i):=by
   unfold lf;rw[List.getD_eq_getElem?_getD,List.getElem?_eq_getElem (by omega)]
   rfl
  have e2:(SL n S)[i]? = some (lf (SL n S) i):=by
   unfold lf;rw[List.getD_eq_getElem?_getD,List.getElem?_eq_getElem (by rw[jn];omega)]
   rfl
  rw[e1,e2,ua7 hi,h2 i hi]
 ·rw[List.getElem?_eq_none (by omega),List.getElem?_eq_none (by rw[jn];omega)]
theorem ufY{t:Tx}{f j:Nat}{m:Nat→Bool}{b:Int}(hb:0≤b∧b≤255)(h:AtB t j (bl (uq b)))(hn:¬(j+(bl (uq b)).length<t.n∧t.T (j+(bl (uq b)).length)=45)):yJ t (f+1) j m=yJ t f (j+(bl (uq b)).length) (yn m b.toNat (b.toNat+1)):=by
 have hp:=qS hb;have hc:=ua5 hb h true;obtain⟨x,r,e,n1,n2,n3,n4,n5⟩:=jJ hb;have hx:=h;rw[e]at hx;obtain⟨d1,d2,_⟩:=hx.head;rw[yJ,if_neg (by rw[d2];omega),hc,if_neg (by show ¬(bl (uq b)).length=0;omega),if_neg hn]
theorem un4{t:Tx}{f j:Nat}{m:Nat→Bool}{a b:Int}(ha:0≤a∧a≤255)(hb:0≤b∧b≤255)(hab:a≤b)(h:AtB t j (bl (uq a)++[45]++bl (uq b))):yJ t (f+1) j m=yJ t f (j+(bl (uq a)++[45]++bl (uq b)).length) (yn m a.toNat (b.toNat+1)):=by
 obtain⟨h',h3⟩:=h.app;obtain⟨h1,h2⟩:=h'.app;obtain⟨c1,c2,_⟩:=h2.head;have hp:=qS ha;have hp':=qS hb;have hc:=ua5 ha h1 true;rw[List.length_append,List.length_singleton,←Nat.add_assoc]at h3;have hc':=ua5 hb h3 true;obtain⟨x,r,e,n1,n2,n3,n4,n5⟩:=jJ ha;have hx:=h1;rw[e]at hx;obtain⟨d1,d2,_⟩:=hx.head;rw[yJ,if_neg (by rw[d2];omega),hc]
 simp only;rw[if_neg (by omega),if_pos ⟨c1,c2⟩,hc']
 simp only;rw[if_neg (by omega)]
 simp only[List.length_append,List.length_singleton]
 congr 1
 omega
def prT(p:Int×Int):List Int:=bl (uO p.1 p.2)
def mkP(m:Nat→Bool)(p:Int×Int):Nat→Bool:=yn m p.1.toNat (p.2.toNat+1)
theorem umH{p:Int×Int}(h:0≤p.1∧p.1≤p.2∧p.2≤255):∃x r,prT p=x::r∧x≠45∧x≠94:=by
 obtain⟨x,r,e,n1,n2,n3,n4,n5⟩:=jJ (b:=p.1) ⟨h.1,by omega⟩
 unfold prT uO;rw[vi,vi,e];exact⟨x,_,rfl,n1,n3⟩
theorem ufi{ps:List (Int×Int)}(h:∀p∈ps,0≤p.1∧p.1≤p.2∧p.2≤255):∃x r,ps.flatMap prT++[93]=x::r∧x≠45∧x≠94:=by
 cases ps with
 |nil=>exact⟨93,[],rfl,by omega,by omega⟩
 |cons p ps =>
  obtain⟨x,r,e,h1⟩:=umH (h p (List.mem_cons_self ..));rw[List.flatMap_cons,e];exact⟨x,_,rfl,h1⟩
theorem umI(m:Nat→Bool){a b c:Nat}(h:a≤b)(h':b≤c):yn (yn m a b) b c=yn m a c:=by
 funext x
 unfold yn;cases m x<;>simp
 by_cases h1:a≤x<;>by_cases h2:x<b<;>by_cases h3:b≤x<;>by_cases h4:x<c<;>simp[h1,h2,h3,h4]<;>omega
theorem udd(t:Tx):∀(ps:List (Int×Int)) (f j:Nat) (m:Nat→Bool),(∀p∈ps,0≤p.1∧p.1≤p.2∧p.2≤255)→AtB t j (ps.flatMap prT++[93])→(ps.flatMap prT).length<f→yJ t f j m=some (ps.foldl mkP m,j+(ps.flatMap prT).length)
 | [],f,j,m,hp,h,hf=>by
  obtain⟨a1,a2,_⟩:=h.head;obtain⟨f,rfl⟩:∃g,f=g+1:=⟨f-1,by omega⟩
  rw[yJ,if_pos ⟨a1,a2⟩];rfl
 | (lo,hi)::ps,f,j,m,hp,h,hf=>by
  obtain⟨p1,p2,p3⟩:=hp (lo,hi) (List.mem_cons_self ..);simp only at p1 p2 p3;have hq:∀p∈ps,0≤p.1∧p.1≤p.2∧p.2≤255:=fun p hx=>hp p (List.mem_cons_of_mem _ hx)
  rw[List.flatMap_cons,List.append_assoc]at h;rw[List.flatMap_cons,List.length_append]at hf ⊢;obtain⟨h1,h2⟩:=h.app;obtain⟨x,r,ex,x1,x2⟩:=ufi hq;have hx:=h2;rw[ex]at hx;obtain⟨y1,y2,_⟩:=hx.head;have hl:0≤lo∧lo≤255:=⟨p1,by omega⟩
  have hh:0≤hi∧hi≤255:=⟨by omega,p3⟩
  have hlp:=qS hl;have hhp:=qS hh;rw[List.foldl_cons];by_cases e1:lo=hi
  ·subst e1
   have e:prT (lo,lo)=bl (uq lo):=by
    unfold prT uO;rw[vi,vi,if_neg (by simp only;omega),if_neg (by simp only;omega)]
    show bl (uq lo)++[]++[]=_;rw[List.append_nil,List.append_nil]
   rw[e]at h1 h2 hf y1 y2 ⊢;obtain⟨f,rfl⟩:∃g,f=g+1:=⟨f-1,by omega⟩
   rw[ufY hl h1 (fun q=>by rw[y2]at q;exact x1 q.2),udd t ps f _ _ hq h2 (by omega)]
   rw[Nat.add_assoc];rfl
  ·by_cases e2:lo+1<hi
   ·have e:prT (lo,hi)=bl (uq lo)++[45]++bl (uq hi):=by
     unfold prT uO;rw[vi,vi,if_pos (by simp only;omega),if_pos (by simp only;omega)]
     rfl
    rw[e]at h1 h2 hf y1 y2 ⊢;obtain⟨f,rfl⟩:∃g,f=g+1:=⟨f-1,by omega⟩
    rw[un4 hl hh p2 h1,udd t ps f _ _ hq h2 (by simp only[List.length_append,List.length_singleton]at hf;omega)]
    rw[Nat.add_assoc];rfl
   ·have e:prT (lo,hi)=bl (uq lo)++bl (uq hi):=by
     unfold prT uO;rw[vi,vi,if_neg (by simp only;omega),if_pos (by simp only;omega)]
     show bl (uq lo)++[]++_=_;rw[List.append_nil]
    rw[e]at h1 h2 hf y1 y2 ⊢;obtain⟨g1,g2⟩:=h1.app;rw[List.length_append]at h2 hf y1 y2 ⊢;rw[←Nat.add_assoc]at h2 y1 y2;obtain⟨f,rfl⟩:∃g,f=g+1+1:=⟨f-2,by omega⟩
    obtain⟨z,r',ez,z1,z2,z3,z4,z5⟩:=jJ hh;have hz:=g2;rw[ez]at hz;obtain⟨w1,w2,_⟩:=hz.head;rw[ufY hl g1 (fun q=>by rw[w2]at q;exact z1 q.2),ufY hh g2 (fun q=>by rw[y2]at q;exact x1 q.2),udd t ps f _ _ hq h2 (by omega)]
    have em:yn (yn m lo.toNat (lo.toNat+1)) hi.toNat (hi.toNat+1)=mkP m (lo,hi):=by
     unfold mkP;simp only;rw[show hi.toNat=lo.toNat+1 by omega]
     exact umI m (by omega) (by omega)
    rw[em]
    congr 2
    omega
def prL(S:Nat→Int)(k:Nat):List (Int×Int):=(List.range k).map (fun i=>(S (2*i),S (2*i+1)))
theorem ug8(S:Nat→Int)(k:Nat):prL S (k+1)=prL S k++[(S (2*k),S (2*k+1))]:=by
 unfold prL;rw[List.range_succ,List.map_append];rfl
theorem ujq(S:Nat→Int):∀k,bl (vS S k)=(prL S k).flatMap prT
 |0=>rfl
 |k+1=>by
  rw[vS,vi,ujq S k,ug8,List.flatMap_append];simp[prT]
theorem ug9{n:Nat}{S:Nat→Int}(h:M.Canon n S)(c:Nat):∀k,2*k≤n→((prL S k).foldl mkP (fun _=>false)) c=ua2 S c k
 |0,_=>rfl
 |k+1,hk=>by
  rw[ug8,List.foldl_append,ua2,←ug9 h c k (by omega)]
  show mkP ((prL S k).foldl mkP (fun _=>false)) (S (2*k),S (2*k+1)) c=_
  have hi:=jK h (k:=k) (by omega)
  unfold mkP yn;simp only
  congr 1
  rw[Bool.eq_iff_iff];simp;omega
theorem un5{t:Tx}{i n:Nat}{S:Nat→Int}(hC:M.Canon n S)(h:AtB t i (bl (b1 91++vS S (n / 2)++b1 93))):tkE t i=⟨91,i,[],SL n S⟩::tkE t (i+(bl (b1 91++vS S (n / 2)++b1 93)).length):=by
 have e:bl (b1 91++vS S (n / 2)++b1 93)=91::((prL S (n / 2)).flatMap prT++[93]):=by
  rw[vi,vi,ujq];rfl
 rw[e]at h ⊢;obtain⟨a1,a2,a3⟩:=h.head;have hn:=hC.1;have hq:∀p∈prL S (n / 2),0≤p.1∧p.1≤p.2∧p.2≤255:=fun p hp=>by
  obtain⟨k,hk,rfl⟩:=List.mem_map.1 hp;have:=List.mem_range.1 hk;exact jK hC (by omega)
 obtain⟨x,r,ex,x1,x2⟩:=ufi hq;have hx:=a3;rw[ex]at hx;obtain⟨y1,y2,_⟩:=hx.head;have hb:=a3.1;simp only[List.length_append,List.length_singleton]at hb;refine ua4 a1 (by unfold wsP;omega) (by omega) ?_ (by show (91:Int)≠0;omega)
 have eg:ugS t i=false:=by
  unfold ugS;exact decide_eq_false (fun q=>by rw[y2]at q;exact x2 q.2)
 have ec:qX t i=some (SL n S,i+(91::((prL S (n / 2)).flatMap prT++[93])).length):=by
  unfold qX;have ebg:uao t i=i+1:=by unfold uao;rw[eg];rfl
  rw[ebg,eg,udd t (prL S (n / 2)) _ (i+1) _ hq a3 (by omega)]
  unfold umc;simp only[Bool.bne_false,List.length_cons,List.length_append,List.length_nil];rw[upw hC (fun c hc=>ug9 hC c (n / 2) (by omega))]
  congr 2
  omega
 unfold vM;rw[if_neg (by unfold M.Letter;omega),if_neg (by omega),if_pos a2,ec]
end
end Go.Proofs.YthicmmhmmfhncaaGreat
