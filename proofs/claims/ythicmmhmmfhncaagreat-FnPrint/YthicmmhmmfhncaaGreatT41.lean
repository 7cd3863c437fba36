import Derived.Test.YthicmmhmmfhncaaGreatT01
import Derived.Test.YthicmmhmmfhncaaGreatT03
set_option linter.unusedVariables false
set_option linter.unusedSimpArgs false
namespace Go.Proofs.YthicmmhmmfhncaaGreat
namespace M
inductive TX where
 |empty
 |set (n:Nat) (S:Nat→Int)
 |ref (s:ByteArray)
 |thr (s:ByteArray)
 |seq (x y:TX)
 |alt (x y:TX)
 |star (x:TX)
 |not (x:TX)
instance:Inhabited TX:=⟨.empty⟩
def TX.bind:TX→Int
 | .seq _ _=>1
 | .alt _ _=>0
 | .star _=>3
 | .not _=>2
 |_=>4
def b1(x:UInt8):ByteArray:=⟨#[x]⟩
def xP(v:Int):UInt8:=if v<10 then UInt8.ofNat (48+v.toNat) else UInt8.ofNat (87+v.toNat)
def uq(b:Int):ByteArray :=
 if b=10 then ⟨#[92,110]⟩ else if b=9 then ⟨#[92,116]⟩ else if b=13 then ⟨#[92,114]⟩
 else if b=92∨b=34∨b=91∨b=93∨b=45∨b=94 then ⟨#[92,UInt8.ofNat b.toNat]⟩
 else if 32≤b∧b≤126 then ⟨#[UInt8.ofNat b.toNat]⟩
 else ⟨#[92,120,xP (b / 16),xP (b%16)]⟩
def uO(lo hi:Int):ByteArray:=uq lo++(if lo+1<hi then b1 45 else ByteArray.empty)++(if lo<hi then uq hi else ByteArray.empty)
def vS(S:Nat→Int):Nat→ByteArray
 |0=>ByteArray.empty
 |k+1=>vS S k++uO (S (2*k)) (S (2*k+1))
def yV(n:Nat)(S:Nat→Int):ByteArray :=
 if n=2∧S 0=0∧S 1=255 then b1 46 else if n=2∧S 0=S 1 then b1 34++uq (S 0)++b1 34
 else b1 91++vS S (n / 2)++b1 93
def grp(c:Bool)(s:ByteArray):ByteArray:=if c then b1 40++s++b1 41 else s
def TX.text:TX→ByteArray
 | .empty=>⟨#[34,34]⟩
 | .set n S=>yV n S
 | .ref s=>s
 | .thr s=>b1 94++s
 | .seq x y=>grp (x.bind<1) x.text++b1 32++grp (y.bind<2) y.text
 | .alt x y=>x.text++⟨#[32,47,32]⟩++grp (y.bind<1) y.text
 | .star x=>grp (x.bind<4) x.text++b1 42
 | .not x=>b1 33++grp (x.bind<2) x.text
theorem TX.bind_pos(t:TX):0≤t.bind:=by cases t<;>simp[TX.bind]
def nodeT(rn ln:Nat→ByteArray)(o:OpD)(x y:TX):TX :=
 if o.kind=1 then .set o.sl o.set else if o.kind=2 then .ref (rn o.arg.toNat) else if o.kind=3 then .thr (ln o.arg.toNat)
 else if o.kind=4 then .seq x y else if o.kind=5 then .alt x y else if o.kind=6 then .star x else if o.kind=7 then .not x else .empty
def bindK(k:Int):Int:=if k=4 then 1 else if k=5 then 0 else if k=6 then 3 else if k=7 then 2 else 4
theorem nodeT_bind(rn ln:Nat→ByteArray)(o:OpD)(x y:TX):(nodeT rn ln o x y).bind=bindK o.kind:=by
 unfold nodeT bindK;by_cases h1:o.kind=1
 ·simp[h1,TX.bind]
 ·by_cases h2:o.kind=2
  ·simp[h2,TX.bind]
  ·by_cases h3:o.kind=3
   ·simp[h3,TX.bind]
   ·by_cases h4:o.kind=4
    ·simp[h4,TX.bind]
    ·by_cases h5:o.kind=5
     ·simp[h5,TX.bind]
     ·by_cases h6:o.kind=6
      ·simp[h6,TX.bind]
      ·by_cases h7:o.kind=7
       ·simp[h7,TX.bind]
       ·simp[h1,h2,h3,h4,h5,h6,h7,TX.bind]
def TX.sz:TX→Nat
 | .seq x y=>x.sz+y.sz+1
 | .alt x y=>x.sz+y.sz+1
 | .star x=>x.sz+1
 | .not x=>x.sz+1
 |_=>1
def TX.Fine:TX→Prop
 | .empty=>True
 | .set n S=>Canon n S
 | .ref s=>0<s.size∧s.size≤32
 | .thr s=>0<s.size∧s.size≤32
 | .seq x y=>x.Fine∧y.Fine
 | .alt x y=>x.Fine∧y.Fine
 | .star x=>x.Fine
 | .not x=>x.Fine
theorem b1_size(x:UInt8):(b1 x).size=1:=rfl
theorem emp_size:ByteArray.empty.size=0:=rfl
theorem byteT_size(b:Int):(uq b).size≤4:=by
 unfold uq;split
 ·simp[ByteArray.size]
 ·split
  ·simp[ByteArray.size]
  ·split
   ·simp[ByteArray.size]
   ·split
    ·simp[ByteArray.size]
    ·split<;>simp[ByteArray.size]
theorem uip(lo hi:Int):(uO lo hi).size≤9:=by
 unfold uO;have h1:=byteT_size lo;have h2:=byteT_size hi;rw[ByteArray.size_append,ByteArray.size_append];have e1:=b1_size 45;have e2:=emp_size;split<;>split<;>omega
theorem midT_size(S:Nat→Int)(k:Nat):(vS S k).size≤9*k:=by
 induction k with
 |zero=>simp[vS]
 |succ k ih =>
  have:=uip (S (2*k)) (S (2*k+1));rw[vS,ByteArray.size_append];omega
theorem canon_len{n:Nat}{S:Nat→Int}(h:Canon n S):n≤256:=by
 obtain⟨h1,h2⟩:=h;obtain⟨k,rfl⟩:∃k,n=2*k:=⟨n / 2,by omega⟩
 have hp:=(pairs_canon S k).2 h2;have key:∀j,j<k→2*(j:Int)≤S (2*j):=by
  intro j;induction j with
  |zero=>intro hj;have:=(hp 0 hj).1;simp[least]at this;simpa using this
  |succ j ih =>
   intro hj;have a:=ih (by omega)
   have b:=(hp j (by omega)).2.1
   have c:=(hp (j+1) hj).1;unfold least at c;rw[if_neg (by omega),show 2*(j+1)-1=2*j+1 by omega]at c
   push_cast
   omega
 by_cases hk:k=0
 ·omega
 ·have a:=key (k-1) (by omega)
  have b:=hp (k-1) (by omega)
  have:=b.2.1;have:=b.2.2;omega
theorem ukP{n:Nat}{S:Nat→Int}(h:Canon n S):(yV n S).size≤1200:=by
 have hn:=canon_len h;have hm:=midT_size S (n / 2);have hb:=byteT_size (S 0);unfold yV;split
 ·rw[b1_size];omega
 ·split
  ·rw[ByteArray.size_append,ByteArray.size_append,b1_size];omega
  ·rw[ByteArray.size_append,ByteArray.size_append,b1_size,b1_size];omega
theorem grp_size(c:Bool)(s:ByteArray):(grp c s).size≤s.size+2:=by
 unfold grp;split
 ·rw[ByteArray.size_append,ByteArray.size_append,b1_size,b1_size];omega
 ·omega
theorem text_size(t:TX)(h:t.Fine):t.text.size+8≤1210*t.sz:=by
 induction t with
 |empty=>simp[TX.text,TX.sz,ByteArray.size]
 |set n S=>have:=ukP h;simp only[TX.text,TX.sz];omega
 |ref s=>simp only[TX.text,TX.sz,TX.Fine]at *;omega
 |thr s=>simp only[TX.text,TX.sz,TX.Fine]at *;rw[ByteArray.size_append,b1_size];omega
 |seq x y ih1 ih2 =>
  have a:=ih1 h.1;have b:=ih2 h.2;have c:=grp_size (x.bind<1) x.text;have d:=grp_size (y.bind<2) y.text;simp only[TX.text,TX.sz];rw[ByteArray.size_append,ByteArray.size_append];have e:(b1 32).size=1:=rfl;omega
 |alt x y ih1 ih2 =>
  have a:=ih1 h.1;have b:=ih2 h.2;have d:=grp_size (y.bind<1) y.text;simp only[TX.text,TX.sz];rw[ByteArray.size_append,ByteArray.size_append];have e:(ByteArray.mk #[32,47,32]).size=3:=rfl;omega
 |star x ih =>
  have a:=ih h;have c:=grp_size (x.bind<4) x.text;simp only[TX.text,TX.sz];rw[ByteArray.size_append];have e:(b1 42).size=1:=rfl;omega
 |not x ih =>
  have a:=ih h;have c:=grp_size (x.bind<2) x.text;simp only[TX.text,TX.sz];rw[ByteArray.size_append];have e:(b1 33).size=1:=rfl;omega
end M
section
open M (OpD uj Gr TX b1)
def yS(g:Gr)(i:Nat):ByteArray:=str (g.rule i).nl (g.rule i).name
def vr(g:Gr)(i:Nat):ByteArray:=str (g.lab i).nl (g.lab i).name
def uu(g:Gr):OpD→TX→TX→TX:=M.nodeT (yS g) (vr g)
def vD(g:Gr)(n:Nat)(B:Nat→OpD):TX:=M.top (M.stk (uu g) B n)
theorem uaq{g:Gr}(hV:M.Valid g){i:Nat}(hi:i<g.nr):0<(yS g i).size∧(yS g i).size≤32:=by
 unfold yS;rw[yC];exact⟨(hV.rn i hi).2.2.1,(hV.rn i hi).1⟩
theorem jZ{g:Gr}(hV:M.Valid g){i:Nat}(hi:i<g.nb):0<(vr g i).size∧(vr g i).size≤32:=by
 unfold vr;rw[yC];exact⟨(hV.ln i hi).2.2.1,(hV.ln i hi).1⟩
theorem ucj{g:Gr}(hV:M.Valid g){o:OpD}(ho:M.ElemOK g.nr g.nb o){x y:TX}(hx:x.Fine)(hy:y.Fine):(uu g o x y).Fine:=by
 obtain⟨h1,h2,h3,h4,h5,h6⟩:=ho;unfold uu M.nodeT;by_cases e1:o.kind=1
 ·rw[if_pos e1];exact h3 e1
 ·rw[if_neg e1]
  by_cases e2:o.kind=2
  ·rw[if_pos e2]
   unfold M.most at h6;rw[if_neg (by omega),if_pos e2]at h6
   exact uaq hV (by omega)
  ·rw[if_neg e2]
   by_cases e3:o.kind=3
   ·rw[if_pos e3]
    unfold M.most at h6;rw[if_pos e3]at h6;exact jZ hV (by omega)
   ·rw[if_neg e3]
    split
    ·exact⟨hx,hy⟩
    ·split
     ·exact⟨hx,hy⟩
     ·split
      ·exact hx
      ·split
       ·exact hx
       ·trivial
theorem ug6{g:Gr}(hV:M.Valid g)(B:Nat→OpD)(n:Nat)(hB:∀i,i<n→M.ElemOK g.nr g.nb (B i)):∀p,p∈M.stk (uu g) B n→p.2.Fine:=by
 induction n with
 |zero=>intro p hp;simp[M.stk]at hp
 |succ n ih =>
  have ih':=ih (fun i hi=>hB i (by omega))
  have ho:=hB n (by omega)
  have hd:(default:TX).Fine:=trivial;rw[M.stk];generalize M.stk (uu g) B n=l at *;intro p hp;unfold M.stp at hp;split at hp
  ·match l,ih',hp with
   | [],_,hp=>simp at hp
   | [_],_,hp=>simp at hp
   | (s2,y)::(s1,x)::r,ih',hp =>
    rcases List.mem_cons.1 hp with rfl | hp
    ·exact ucj hV ho (ih' (s1,x) (by simp)) (ih' (s2,y) (by simp))
    ·exact ih' p (by simp[hp])
  ·split at hp
   ·match l,ih',hp with
    | [],_,hp=>simp at hp
    | (s1,x)::r,ih',hp =>
     rcases List.mem_cons.1 hp with rfl | hp
     ·exact ucj hV ho (ih' (s1,x) (by simp)) hd
     ·exact ih' p (by simp[hp])
   ·rcases List.mem_cons.1 hp with rfl | hp
    ·exact ucj hV ho hd hd
    ·exact ih' p hp
def szs:List (Nat×TX)→Nat
 | []=>0
 | (_,t)::r=>t.sz+szs r
theorem ufX(g:Gr)(o:OpD)(x y:TX):(M.ar o.kind=2→(uu g o x y).sz=x.sz+y.sz+1)∧(M.ar o.kind=1→(uu g o x y).sz=x.sz+1)∧(M.ar o.kind=0→(uu g o x y).sz=1):=by
 unfold uu M.nodeT M.ar;by_cases e1:o.kind=1
 ·simp[e1,M.TX.sz]
 ·by_cases e2:o.kind=2
  ·simp[e2,M.TX.sz]
  ·by_cases e3:o.kind=3
   ·simp[e3,M.TX.sz]
   ·by_cases e4:o.kind=4
    ·simp[e4,M.TX.sz]
    ·by_cases e5:o.kind=5
     ·simp[e5,M.TX.sz]
     ·by_cases e6:o.kind=6
      ·simp[e6,M.TX.sz]
      ·by_cases e7:o.kind=7
       ·simp[e7,M.TX.sz]
       ·simp[e1,e2,e3,e4,e5,e6,e7,M.TX.sz]
theorem umD(g:Gr)(B:Nat→OpD)(n:Nat)(h:M.Fed B n):szs (M.stk (uu g) B n)=n:=by
 induction n with
 |zero=>rfl
 |succ n ih =>
  have e:=ih (h.less (by omega))
  have hl:=M.stk_len (uu g) B n (h.less (by omega))
  have hi:=h n (by omega)
  rw[M.stk];generalize M.stk (uu g) B n=l at *;rcases M.ar_cases (B n).kind with h0 | h0 | h0
  ·have:=(ufX g (B n) default default).2.2 h0
   simp[M.stp,h0,szs,this];omega
  ·rw[h0]at hi
   match l,e,hl with
   | [],e,hl=>simp at hl;omega
   | (a,x)::r,e,hl =>
    have:=(ufX g (B n) x default).2.1 h0;simp[M.stp,h0,szs,this]at *;omega
  ·rw[h0]at hi
   match l,e,hl with
   | [],e,hl=>simp at hl;omega
   | [(a,x)],e,hl=>simp at hl;omega
   | (a,y)::(b,x)::r,e,hl =>
    have:=(ufX g (B n) x y).1 h0;simp[M.stp,h0,szs,this]at *;omega
theorem upq{l:List (Nat×TX)}:(M.top l).sz≤szs l+1:=by
 match l with
 | []=>simp[M.top,szs];exact Nat.le_refl 1
 | (s,t)::r=>simp[M.top,szs];omega
theorem upr{l:List (Nat×TX)}{p:Nat×TX}(h:p∈l):p.2.sz≤szs l:=by
 induction l with
 |nil=>cases h
 |cons q r ih =>
  obtain⟨s,t⟩:=q;rcases List.mem_cons.1 h with rfl | h
  ·simp[szs]
  ·have:=ih h;simp[szs];omega
theorem ufd{g:Gr}(hV:M.Valid g){n:Nat}{B:Nat→OpD}(hB:M.BodyOK g.nr g.nb n B):(vD g n B).Fine:=by
 unfold vD;have:=ug6 hV B n hB.1;generalize M.stk (uu g) B n=l at *;match l,this with
 | [],_=>trivial
 | (s,t)::r,h=>exact h (s,t) (by simp)
theorem qR{g:Gr}(hV:M.Valid g){n:Nat}{B:Nat→OpD}(hB:M.BodyOK g.nr g.nb n B):(vD g n B).text.size≤1210*(n+1):=by
 have h1:=M.text_size _ (ufd hV hB);have h2:=umD g B n hB.2.1;have h3:=upq (l:=M.stk (uu g) B n);rw[h2]at h3;have:(vD g n B).sz≤n+1:=h3;omega
def vY(nm:ByteArray)(t:TX):ByteArray:=nm++⟨#[32,61,32]⟩++t.text++⟨#[32,59,10]⟩
def ui8(g:Gr)(k:Nat):TX:=vD g (g.rule k).bl (g.rule k).body
def uaX(g:Gr)(k:Nat):TX:=vD g (g.lab k).bl (g.lab k).body
def vO(g:Gr):Nat→ByteArray
 |0=>ByteArray.empty
 |k+1=>vO g k++vY (yS g k) (ui8 g k)
def vl(g:Gr):Nat→ByteArray
 |0=>vO g g.nr
 |k+1=>if (g.lab k).has then vl g k++(b1 94++vY (vr g k) (uaX g k)) else vl g k
def uaY(g:Gr):ByteArray:=vl g g.nb
theorem uck(nm:ByteArray)(t:TX):(vY nm t).size=nm.size+t.text.size+6:=by
 unfold vY;rw[ByteArray.size_append,ByteArray.size_append,ByteArray.size_append];have e1:(ByteArray.mk #[32,61,32]).size=3:=rfl;have e2:(ByteArray.mk #[32,59,10]).size=3:=rfl;omega
theorem ucI{g:Gr}(hV:M.Valid g)(k:Nat)(hk:k≤g.nr):(vO g k).size≤1300*k+1210*M.sum (fun i=>(g.rule i).bl) k:=by
 induction k with
 |zero=>simp[vO,M.sum]
 |succ k ih =>
  have h1:=ih (by omega)
  have h2:=qR hV (hV.rb k (by omega))
  have h3:=uaq hV (i:=k) (by omega)
  rw[vO,ByteArray.size_append,uck,M.sum];unfold ui8;omega
theorem uic{g:Gr}(hV:M.Valid g)(k:Nat)(hk:k≤g.nb):(vl g k).size≤1300*g.nr+1210*M.sum (fun i=>(g.rule i).bl) g.nr+(1300*k+1210*M.sum (fun i=>(g.lab i).bl) k):=by
 induction k with
 |zero=>have:=ucI hV g.nr (Nat.le_refl _);simp[vl,M.sum];exact this
 |succ k ih =>
  have h1:=ih (by omega)
  rw[vl,M.sum];split
  ·rename_i hh
   have h2:=qR hV (hV.lb k (by omega) hh)
   have h3:=jZ hV (i:=k) (by omega)
   rw[ByteArray.size_append,ByteArray.size_append,uck,M.b1_size];unfold uaX;omega
  ·omega
theorem ucl{g:Gr}(hV:M.Valid g)(k:Nat)(hk:k≤g.nr):(vO g k).size≤2700000:=by
 have h1:=ucI hV k hk;have h2:=M.sum_le (fun i=>(g.rule i).bl) hk
 have h3:=hV.ol;have h4:=hV.r2;unfold M.ops at h3;omega
theorem uaZ{g:Gr}(hV:M.Valid g)(k:Nat)(hk:k≤g.nb):(vl g k).size≤2700000:=by
 have h1:=uic hV k hk;have h2:=M.sum_le (fun i=>(g.lab i).bl) hk
 have h3:=hV.ol;have h4:=hV.r2;have h5:=hV.l2;unfold M.ops at h3;omega
theorem uid{g:Gr}(hV:M.Valid g){k:Nat}(hk:k<g.nr):(g.rule k).bl≤2000:=by
 have h3:=hV.ol;unfold M.ops at h3;have:=M.le_sum (fun i=>(g.rule i).bl) hk
 omega
theorem uie{g:Gr}(hV:M.Valid g){k:Nat}(hk:k<g.nb):(g.lab k).bl≤2000:=by
 have h3:=hV.ol;unfold M.ops at h3;have:=M.le_sum (fun i=>(g.lab i).bl) hk
 omega
section
variable {α:Type} [Inhabited α] (f:OpD→α→α→α) (B:Nat→OpD)
theorem uar(q lo:Nat)(x:α)(hF:M.Fed B (q+1))(h2:M.ar (B q).kind=2)(e:M.stk f B (q+1)=(lo,x)::M.stk f B lo) :
  ∃s y z,lo<s∧s<q∧M.stk f B q=(s,y)::M.stk f B s∧M.stk f B s=(lo,z)::M.stk f B lo∧x=f (B q) z y∧M.dep B s+1=M.dep B q∧∀j,s<j→j≤q→M.dep B q≤M.dep B j:=by
 have hq:M.Fed B q:=hF.less (by omega)
 have hl:=M.stk_len f B q hq;have hi:=hF q (by omega)
 rw[M.stk]at e;match hs:M.stk f B q with
 | []=>rw[hs]at hl;simp at hl;omega
 | [(s,y)]=>rw[hs]at hl;simp at hl;omega
 | (s,y)::(s1,z)::r =>
  rw[hs]at e hl;simp only[M.stp,h2,if_true,List.cons.injEq,Prod.mk.injEq]at e;obtain⟨⟨rfl,rfl⟩,er⟩:=e;obtain⟨a1,a2,a3⟩:=M.stk_cons f B q hq s y _ hs;obtain⟨b1,b2,b3⟩:=M.stk_cons f B s (hq.less (by omega)) s1 z r a2.symm
  have l2:=M.stk_len f B s (hq.less (by omega))
  rw[←a2]at l2;simp at hl l2;exact⟨s,y,z,b1,a1,by rw[←a2],by rw[←a2,b2],rfl,by omega,a3⟩
theorem ucm(q lo:Nat)(x:α)(hF:M.Fed B (q+1))(h1:M.ar (B q).kind=1)(e:M.stk f B (q+1)=(lo,x)::M.stk f B lo) :
  ∃z,lo<q∧M.stk f B q=(lo,z)::M.stk f B lo∧x=f (B q) z default:=by
 have hq:M.Fed B q:=hF.less (by omega)
 have hl:=M.stk_len f B q hq;have hi:=hF q (by omega)
 rw[M.stk]at e;match hs:M.stk f B q with
 | []=>rw[hs]at hl;simp at hl;omega
 | (s,z)::r =>
  rw[hs]at e hl;simp[M.stp,h1]at e;obtain⟨⟨rfl,rfl⟩,er⟩:=e;obtain⟨a1,a2,a3⟩:=M.stk_cons f B q hq s z _ hs;exact⟨z,a1,by rw[←er],rfl⟩
theorem jd(q lo:Nat)(x:α)(h0:M.ar (B q).kind=0)(e:M.stk f B (q+1)=(lo,x)::M.stk f B lo):x=f (B q) default default:=by
 rw[M.stk]at e;simp[M.stp,h0]at e;exact e.1.2.symm
end
theorem ud9(g:Gr)(B:Nat→OpD)(q s:Nat)(y:TX)(r:List (Nat×TX))(hF:M.Fed B q)(e:M.stk (uu g) B q=(s,y)::r):y.bind=M.bindK (B (q-1)).kind:=by
 match q,hF,e with
 |0,_,e=>simp[M.stk]at e
 |q+1,hF,e =>
  have hl:=M.stk_len (uu g) B q (hF.less (by omega))
  have hi:=hF q (by omega)
  rw[M.stk]at e;show y.bind=M.bindK (B q).kind;rcases M.ar_cases (B q).kind with h0 | h0 | h0
  ·simp[M.stp,h0]at e
   rw[←e.1.2];exact M.nodeT_bind _ _ _ _ _
  ·match hs:M.stk (uu g) B q with
   | []=>rw[hs]at hl;simp at hl;omega
   | (s1,z)::r1 =>
    rw[hs]at e;simp[M.stp,h0]at e;rw[←e.1.2];exact M.nodeT_bind _ _ _ _ _
  ·match hs:M.stk (uu g) B q with
   | []=>rw[hs]at hl;simp at hl;omega
   | [(s1,z)]=>rw[hs]at hl;simp at hl;omega
   | (s2,z2)::(s1,z)::r1 =>
    rw[hs]at e;simp[M.stp,h0]at e;rw[←e.1.2];exact M.nodeT_bind _ _ _ _ _
end
end Go.Proofs.YthicmmhmmfhncaaGreat
