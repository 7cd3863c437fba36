import Derived.Test.YtpghlcdkfldlpaaGreatT37
import Derived.Test.YtpghlcdkfldlpaaGreatT38
set_option linter.unusedVariables false
set_option linter.unusedSimpArgs false
set_option maxHeartbeats 40000000
set_option maxRecDepth 100000
namespace Go.Proofs.YtpghlcdkfldlpaaGreat
def evL(L:List EvD)(i:Nat):EvD:=L.getD i ⟨0,0,0⟩
theorem uca{L:List EvD}{i:Nat}(h:i<L.length):evL L i=L[i]:=by simp[evL,h]
theorem uf6(L:List EvD):∀k,k<=L.length->opn (evL L) k=dpL (L.take k)
 |0,_=>rfl
 |k+1,h=>by
  rw[opn,uf6 L k (by omega),List.take_succ_eq_append_getElem (by omega),uhl]
  unfold cls;rw[uca (by omega)]
  by_cases e:(L[k]'(by omega)).kind=2
  ·simp[e];omega
  ·simp[e]
theorem uj8(E:Nat->EvD):∀k:Nat,opn E k+k=2*(num E k:Int)
 |0=>rfl
 |k+1=>by
  have h:=uj8 E k;cases hc:cls E k with
  |true=>rw[ym hc,ucf hc];omega
  |false=>rw[yD hc,ubN E hc];omega
structure unS(E:Nat->EvD)(n:Nat):Prop where
 wh:uhL E n
 n0:0<n
 pre:∀k,0<k->k<n->1<=opn E k
 srt:∀a b,a<=b->b<n->(E a).pos<=(E b).pos
 hd:E 0=⟨0,0,0⟩
theorem uf7{L:List EvD}{pos:Nat}(h:LogOK 0 L pos):unS (evL L) L.length:=by
 have srt:∀a b,a<=b->b<L.length->(evL L a).pos<=(evL L b).pos:=fun a b hab hb=>by
  by_cases e:a=b
  ·subst e;exact Int.le_refl _
  ·rw[uca (by omega),uca hb]
   exact List.pairwise_iff_getElem.1 h.asc a b (by omega) hb (by omega)
 have hend:opn (evL L) L.length=0:=by rw[uf6 L _ (Nat.le_refl _),List.take_length];exact h.dep
 have pre:∀k,0<k->k<L.length->1<=opn (evL L) k:=fun k h1 h2=>by rw[uf6 L k (by omega)];exact h.pre k h1 h2
 obtain⟨l,hl⟩:=h.hd;refine⟨⟨fun j hj=>?_,hend⟩,by rw[hl];simp,pre,srt,by rw[hl];rfl⟩
 have hk:=h.kinds L[j] (List.getElem_mem hj);refine⟨by rw[uca hj];exact hk.1,by rw[uca hj];exact hk.2.1,by rw[uca hj];exact hk.2.2.1,fun h0=>srt _ _ (by omega) hj,?_⟩
 by_cases e:j+1=L.length
 ·rw[e,hend];exact Int.le_refl _
 ·have:=pre (j+1) (by omega) (by omega);omega
theorem ubM{E:Nat->EvD}{n j:Nat}(h:uhL E n)(hj:j<n)(hc:cls E j=false):∃c,j<c/\c<n/\(∀k,j<k->k<=c->opn E j+1<=opn E k)/\opn E (c+1)=opn E j/\tov E n j=(E c).pos:=by
 rw[upy h hj hc];have o1:=yD hc;have key:∀i,j<i->i<=n->((∀k,j<k->k<=i->opn E j+1<=opn E k)/\ueb E n (n-j) (opn E j+1)=ueb E n (n-i) (opn E j+1))\/∃c,j<c/\c<n/\(∀k,j<k->k<=c->opn E j+1<=opn E k)/\opn E (c+1)=opn E j/\ueb E n (n-j) (opn E j+1)=(E c).pos:=by
  intro i;induction i with
  |zero=>intro h;omega
  |succ i ih =>
   intro h1 h2;by_cases e:i=j
   ·subst e
    refine .inl ⟨fun k k1 k2=>?_,?_⟩
    ·obtain rfl:k=i+1:=by omega
     omega
    ·rw[uch E hj,if_neg (by rw[hc];simp)]
   ·rcases ih (by omega) (by omega) with⟨a1,a2⟩ | q
    ·have hi:=a1 i (by omega) (Nat.le_refl _)
     rw[uch E (show i<n by omega)]at a2
     cases hci:cls E i with
     |false =>
      rw[if_neg (by rw[hci];simp)]at a2
      refine .inl ⟨fun k k1 k2=>?_,a2⟩
      by_cases ek:k=i+1
      ·subst ek;rw[yD hci];omega
      ·exact a1 k k1 (by omega)
     |true =>
      by_cases eo:opn E i=opn E j+1
      ·rw[if_pos ⟨hci,eo⟩]at a2
       exact .inr ⟨i,by omega,by omega,a1,by rw[ym hci];omega,a2⟩
      ·rw[if_neg (fun q=>eo q.2)]at a2
       refine .inl ⟨fun k k1 k2=>?_,a2⟩
       by_cases ek:k=i+1
       ·subst ek;rw[ym hci];omega
       ·exact a1 k k1 (by omega)
    ·exact .inr q
 rcases key n hj (Nat.le_refl _) with⟨a1,_⟩ | q
 ·have:=a1 n hj (Nat.le_refl _)
  have:=qx (h.1.less (Nat.le_of_lt hj));rw[h.2]at *;omega
 ·exact q
theorem upu{E:Nat->EvD}{i:Nat}(h:Pre E i):∀d,1<=d->d<=opn E i->∃j,j<i/\cls E j=false/\las E i d=(num E j:Int)/\opn E j+1=d/\∀k,j<k->k<=i->d<=opn E k:=by
 induction i with
 |zero=>intro d h1 h2;simp[opn]at h2;omega
 |succ i ih =>
  intro d h1 h2;have ih:=ih (h.less (by omega))
  cases hc:cls E i with
  |false =>
   rw[yD hc]at h2;by_cases e:d=opn E i+1
   ·refine⟨i,by omega,hc,by rw[kY hc,if_pos e],e.symm,fun k k1 k2=>?_⟩
    obtain rfl:k=i+1:=by omega
    rw[yD hc];omega
   ·obtain⟨j,a1,a2,a3,a4,a5⟩:=ih d h1 (by omega)
    refine⟨j,by omega,a2,by rw[kY hc,if_neg e];exact a3,a4,fun k k1 k2=>?_⟩
    by_cases ek:k=i+1
    ·subst ek;rw[yD hc];omega
    ·exact a5 k k1 (by omega)
  |true =>
   rw[ym hc]at h2;obtain⟨j,a1,a2,a3,a4,a5⟩:=ih d h1 (by omega)
   refine⟨j,by omega,a2,by rw[kI hc];exact a3,a4,fun k k1 k2=>?_⟩
   by_cases ek:k=i+1
   ·subst ek;rw[ym hc];omega
   ·exact a5 k k1 (by omega)
def ndN(E:Nat->EvD)(n i:Nat):NdD:=ndI E n ((ops E n).getD i 0)
def fre(E:Nat->EvD)(n:Nat)(q:Nat):Nat->Int
 |0=>0
 |i+1=>if (ndN E n (i+1)).par=(q:Int) then (ndN E n (i+1)).to else fre E n q i
theorem upN{E:Nat->EvD}{n i:Nat}(hi:i<num E n):∃j,j<n/\cls E j=false/\num E j=i/\ndN E n i=ndI E n j:=by
 have h1:=List.getElem?_eq_getElem hi;obtain⟨h2,h3⟩:=upx E (List.getElem_mem hi);exact⟨(ops E n)[i]'hi,h2,h3,(uka E h1).symm,by unfold ndN;rw[List.getD_eq_getElem?_getD,h1];rfl⟩
theorem upv{E:Nat->EvD}{a b:Nat}(ha:cls E a=false)(hb:cls E b=false)(h:num E a=num E b):a=b:=by
 rcases Nat.lt_trichotomy a b with q | q | q
 ·have:=uce E ha q;omega
 ·exact q
 ·have:=uce E hb q;omega
theorem uhJ{E:Nat->EvD}{n j:Nat}(h:unS E n)(hj:j<n)(h0:0<j):∃p,p<j/\cls E p=false/\las E j (opn E j)=(num E p:Int)/\opn E p+1=opn E j/\∀k,p<k->k<=j->opn E j<=opn E k :=
 upu (h.wh.1.less (Nat.le_of_lt hj)) (opn E j) (h.pre j h0 hj) (Int.le_refl _)
theorem upw{E:Nat->EvD}{n i:Nat}(h:unS E n)(hi:i+1<num E n):∃q:Nat,(ndN E n (i+1)).par=(q:Int)/\q<i+1/\(ndN E n (i+1)).frm<=(ndN E n (i+1)).to/\(ndN E n q).frm<=(ndN E n (i+1)).frm/\(ndN E n (i+1)).to<=(ndN E n q).to/\fre E n q i<=(ndN E n (i+1)).frm:=by
 obtain⟨j,hj,hc,hn,e⟩:=upN hi;have h0:0<j:=by
  rcases Nat.eq_zero_or_pos j with rfl | q
  ·simp[num,ops]at hn
  ·exact q
 obtain⟨p,p1,p2,p3,p4,p5⟩:=uhJ h hj h0;obtain⟨c,c1,c2,c3,c4,c5⟩:=ubM h.wh hj hc;obtain⟨d,d1,d2,d3,d4,d5⟩:=ubM h.wh (show p<n by omega) p2
 have hlt:=uce E p2 p1;have ep:ndN E n (num E p)=ndI E n p:=by
  unfold ndN;rw[List.getD_eq_getElem?_getD,ui8 E p2 (show p<n by omega)];rfl
 have hcd:c<=d:=by
  rcases Nat.lt_or_ge d c with q | q
  ·exfalso
   by_cases e1:d+1<=j
   ·have:=p5 (d+1) (by omega) e1;omega
   ·have:=c3 (d+1) (by omega) (by omega);omega
  ·exact q
 have hto:(ndI E n j).to=(E c).pos:=c5;have htp:(ndI E n p).to=(E d).pos:=d5;refine⟨num E p,by rw[e];exact p3,by omega,?_,?_,?_,?_⟩
 ·rw[e,hto];exact h.srt j c (by omega) c2
 ·rw[e,ep];exact h.srt p j (by omega) hj
 ·rw[e,ep,hto,htp];exact h.srt c d hcd d2
 ·rw[e]
  have key:∀m,m<=i->fre E n (num E p) m<=(ndI E n j).frm:=by
   intro m;induction m with
   |zero=>intro _;exact (h.wh.1 j hj).pos
   |succ m ih =>
    intro hm;rw[fre];split
    ·rename_i hp
     obtain⟨j',hj',hc',hn',e'⟩:=upN (E:=E) (n:=n) (i:=m+1) (by omega)
     rw[e']at hp ⊢;have hjj:j'<j:=by
      rcases Nat.lt_or_ge j' j with q | q
      ·exact q
      ·have:=uec E q;omega
     have h0':0<j':=by
      rcases Nat.eq_zero_or_pos j' with rfl | q
      ·simp[num,ops]at hn'
      ·exact q
     obtain⟨p',q1,q2,q3,q4,q5⟩:=uhJ h hj' h0';have hx:las E j' (opn E j')=(num E p:Int):=hp;have hpe:p'=p:=upv q2 p2 (by omega)
     subst hpe;obtain⟨c',r1,r2,r3,r4,r5⟩:=ubM h.wh hj' hc';have hto':(ndI E n j').to=(E c').pos:=r5;rw[hto'];refine h.srt c' j ?_ hj;rcases Nat.lt_or_ge c' j with q | q
     ·omega
     ·have:=r3 j hjj q;omega
    ·exact ih (by omega)
  exact key i (Nat.le_refl _)
theorem ulk{E:Nat->EvD}{n:Nat}(h:unS E n):0<num E n/\ndN E n 0=⟨0,0,0,(E (n-1)).pos,-1⟩:=by
 have hc:cls E 0=false:=by unfold cls;rw[h.hd];rfl
 have h1:=ui8 E hc h.n0;have h0:num E 0=0:=rfl;rw[h0]at h1;refine⟨(List.getElem?_eq_some_iff.1 h1).1,?_⟩;obtain⟨c,c1,c2,c3,c4,c5⟩:=ubM h.wh h.n0 hc;have hcn:c=n-1:=by
  by_cases e:c+1=n
  ·omega
  ·have:=h.pre (c+1) (by omega) (by omega)
   rw[c4]at this;simp[opn]at this
 unfold ndN ndI;rw[List.getD_eq_getElem?_getD,h1];show (⟨(E 0).kind,(E 0).arg,(E 0).pos,tov E n 0,las E 0 (opn E 0)⟩:NdD)=_;rw[h.hd,c5,hcn];rfl
end Go.Proofs.YtpghlcdkfldlpaaGreat
