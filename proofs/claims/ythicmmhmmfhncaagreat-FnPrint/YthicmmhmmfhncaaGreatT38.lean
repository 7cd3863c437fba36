import Derived.Test.YthicmmhmmfhncaaGreatT35
import Derived.Test.YthicmmhmmfhncaaGreatT37
import Derived.Test.YthicmmhmmfhncaaGreatT34
set_option linter.unusedVariables false
set_option linter.unusedSimpArgs false
namespace Go.Proofs.YthicmmhmmfhncaaGreat
section
open Go.RowKit
open M (OpD uj Gr)
theorem uiE{l:List NL}{i:Nat}{x:NL}(h:l[i]? = some x):node (l.getD i default)=node x:=by rw[List.getD_eq_getElem?_getD,h];rfl
theorem qE{ls:List (List Int)}{qs:List Rl}{i:Nat}{x:NL}(h:(uP (ue qs) ls qs)[i]? = some x):(uT ls qs).rule i=node x:=uiE h
theorem uaH{ls:List (List Int)}{qs:List Rl}{i:Nat}{x:NL}(h:(uS (ue qs) ls qs)[i]? = some x):(uT ls qs).lab i=node x:=uiE h
theorem qk(ls:List (List Int))(qs:List Rl):(uP (ue qs) ls qs).map (·.nm)=ue qs:=by
 unfold uP;rw[List.map_map];rfl
theorem ucC:∀{seen qs:List Rl},xF seen qs=none→(ue qs).Nodup∧∀z∈ue qs,z ∉ ue seen
 |seen,[],_=>⟨List.nodup_nil,fun z hz=>by cases hz⟩
 |seen,q::r,h=>by
  rw[xF]at h;split at h
  ·cases h
  ·rename_i hn
   obtain⟨h1,h2⟩:=ucC h;have e:ue (q::r)=(if q.car.isSome then [] else [q.name.nm])++ue r:=by
    unfold ue;cases hc:q.car<;>simp[hc]
   rw[jN]at h2;rw[e];cases hc:q.car.isSome
   ·rw[hc]at h2
    simp only[Bool.false_eq_true,if_false]at h2 ⊢;have hq:q.name.nm ∉ ue seen:=fun z=>hn (by
     have:=(udn seen q).2 (by rw[hc];simpa using z)
     exact this)
    refine⟨?_,fun z hz=>?_⟩
    ·rw[List.singleton_append,List.nodup_cons]
     exact⟨fun z=>h2 _ z (by simp),h1⟩
    ·rw[List.singleton_append]at hz
     rcases List.mem_cons.1 hz with rfl | hz
     ·exact hq
     ·exact fun y=>h2 z hz (by simp[y])
   ·rw[hc]at h2
    simp only[if_true,List.nil_append]at h2 ⊢;exact⟨h1,h2⟩
theorem ugt:∀{l:List (List Int)},Asc l→∀(i:Nat) (y z:List Int),l[i]? = some y→l[i+1]? = some z→ltB y z
 | [],_,i,y,z,h,_=>by simp at h
 |x::r,ha,0,y,z,h,k=>by
  simp at h k;subst h;exact ha.1 z (List.mem_of_getElem? k)
 |x::r,ha,i+1,y,z,h,k=>by
  simp at h k;exact ugt ha.2 i y z h k
structure TxH(n:Nat)(qs:List Rl)(ls:List (List Int)):Prop where
 ok:∀q∈qs,q.ok
 tok:∀q∈qs,TokF n q.name∧∀x∈q.body.tk,TokF n x
 dup:xF [] qs=none
 refs:yY (ue qs) (yc qs)=none
 ne:ue qs≠[]
 asc:Asc ls
 mem:∀z,z∈ls↔z∈uB qs∨∃t∈vK qs,t.nm=z
theorem TxH.refIn{n:Nat}{qs:List Rl}{ls:List (List Int)}(h:TxH n qs ls):∀q∈qs,∀t∈q.body.refT,t.nm∈ue qs:=fun q hq t ht=>ueM h.refs t (List.mem_flatMap.2 ⟨q,hq,ht⟩)
theorem TxH.thrIn{n:Nat}{qs:List Rl}{ls:List (List Int)}(h:TxH n qs ls):∀q∈qs,∀t∈q.body.thrT,t.nm∈ls:=fun q hq t ht=>(h.mem _).2 (.inr ⟨t,List.mem_flatMap.2 ⟨q,hq,ht⟩,rfl⟩)
theorem TxH.recIn{n:Nat}{qs:List Rl}{ls:List (List Int)}(h:TxH n qs ls):∀q∈qs,q.car.isSome=true→q.name.nm∈ls:=fun q hq hc=>(h.mem _).2 (.inl (List.mem_map.2 ⟨q,List.mem_filter.2 ⟨hq,hc⟩,rfl⟩))
theorem udD{n:Nat}{x:Tok}(h:TokF n x)(hk:x.kind=110):M.NameB x.nm.length (lf x.nm):=by
 obtain⟨h1,y,r,e,h2⟩:=h.name hk;refine⟨fun i hi=>?_,by rw[e];simp,?_⟩
 ·rw[ueN (List.getElem?_eq_getElem hi)]
  exact h1 _ (List.getElem_mem hi)
 ·rw[e]
  exact h2
theorem ulJ:∀(e:PE) (l:Nat),e.ok l→∀t∈e.thrT,t.kind=110:=by
 intro e;induction e with
 |thr c t =>
   intro l h x hx;have:x=t:=by simpa[PE.thrT] using hx
   rw[this];exact h.2
 |ref t=>intro l h x hx;cases hx
 |str t=>intro l h x hx;cases hx
 |cls t=>intro l h x hx;cases hx
 |dot t=>intro l h x hx;cases hx
 |grp o e c ih=>intro l h x hx;exact ih 5 h.2.2 x hx
 |star e t ih=>intro l h x hx;exact ih 0 h.2.2 x hx
 |opt e t ih=>intro l h x hx;exact ih 0 h.2.2 x hx
 |not t e ih=>intro l h x hx;exact ih 2 h.2.2 x hx
 |amp t e ih=>intro l h x hx;exact ih 2 h.2.2 x hx
 |emp=>intro l h x hx;cases hx
 |seq a b iha ihb=>intro l h x hx;rcases List.mem_append.1 hx with q | q;exact iha 3 h.2.1 x q;exact ihb 2 h.2.2 x q
 |alt a t b iha ihb=>intro l h x hx;rcases List.mem_append.1 hx with q | q;exact iha 5 h.2.2.1 x q;exact ihb 4 h.2.2.2 x q
theorem TxH.labName{n:Nat}{qs:List Rl}{ls:List (List Int)}(h:TxH n qs ls){z:List Int}(hz:z∈ls):M.NameB z.length (lf z):=by
 rcases (h.mem z).1 hz with hr | ⟨t,ht,rfl⟩
 ·obtain⟨q,hq,rfl⟩:=List.mem_map.1 hr
  have hqm:=(List.mem_filter.1 hq).1;exact udD (h.tok q hqm).1 (h.ok q hqm).2.1
 ·obtain⟨q,hq,ht⟩:=List.mem_flatMap.1 ht
  exact udD ((h.tok q hq).2 t (uiC _ t ht)) (ulJ _ 5 (h.ok q hq).2.2.2.1 t ht)
theorem uhK{a b:List Int}(h:M.SameName (node ⟨a,true,[]⟩) (node ⟨b,true,[]⟩)):a=b:=by
 obtain⟨h1,h2⟩:=h;have h1:a.length=b.length:=h1;refine List.ext_getElem? (fun i=>?_)
 by_cases hi:i<a.length
 ·have e:=h2 i hi
  have e:lf a i=lf b i:=e;rw[ueN (List.getElem?_eq_getElem hi),ueN (List.getElem?_eq_getElem (h1▸hi))]at e;rw[List.getElem?_eq_getElem hi,List.getElem?_eq_getElem (h1▸hi),e]
 ·rw[List.getElem?_eq_none (by omega),List.getElem?_eq_none (by omega)]
theorem TxH.names{n:Nat}{qs:List Rl}{ls:List (List Int)}(h:TxH n qs ls):qO (uT ls qs):=by
 have hrl:(uT ls qs).nr=(uP (ue qs) ls qs).length:=rfl;have hll:(uT ls qs).nb=ls.length:=by show (uS (ue qs) ls qs).length=_;unfold uS;rw[List.length_map]
 have rat:∀i,i<(uT ls qs).nr→∃q∈qs,q.car.isSome=false∧(uT ls qs).rule i=node (qu (ue qs) ls q)∧(ue qs)[i]? = some q.name.nm:=fun i hi=>by
  rw[hrl]at hi;have hx:=List.getElem?_eq_getElem hi;have hm:=List.getElem_mem hi;have e:(ue qs)[i]? = some ((uP (ue qs) ls qs)[i]).nm:=by
   have e0:=congrArg (fun l=>l[i]?) (qk ls qs)
   simp only[List.getElem?_map,hx]at e0;exact e0.symm
  generalize (uP (ue qs) ls qs)[i]=x at hx hm e;unfold uP at hm;obtain⟨q,hq,rfl⟩:=List.mem_map.1 hm;have hq':=List.mem_filter.1 hq;exact⟨q,hq'.1,by simpa using hq'.2,qE hx,e⟩
 have lat:∀i,i<(uT ls qs).nb→∃z,ls[i]? = some z∧(uT ls qs).lab i=node (vN (ue qs) ls qs z):=fun i hi=>by
  rw[hll]at hi;refine⟨ls[i],List.getElem?_eq_getElem hi,uaH ?_⟩;unfold uS;rw[List.getElem?_map,List.getElem?_eq_getElem hi];rfl
 refine⟨fun i hi=>?_,fun i hi=>?_⟩
 ·obtain⟨q,hq,hc,e,en⟩:=rat i hi
  rw[e];refine⟨udD (h.tok q hq).1 (h.ok q hq).2.1,fun j hj hs=>?_⟩
  obtain⟨q',hq',hc',e',en'⟩:=rat j (by omega)
  rw[e']at hs;have hnn:q.name.nm=q'.name.nm:=uhK ⟨hs.1,hs.2⟩;have hnd:=(ucC h.dup).1;rw[←hnn]at en';have e1:=kC hnd en;have e2:=kC hnd en';omega
 ·obtain⟨z,hz,e⟩:=lat i hi
  rw[e];have en:(node (vN (ue qs) ls qs z)).nl=z.length∧(node (vN (ue qs) ls qs z)).name=lf z:=by
   have:=jE (ue qs) ls qs z;exact⟨by show (vN (ue qs) ls qs z).nm.length=_;rw[this],by show lf (vN (ue qs) ls qs z).nm=_;rw[this]⟩
  rw[en.1,en.2];refine⟨h.labName (List.mem_of_getElem? hz),fun hi0=>?_⟩
  obtain⟨y,hy,e'⟩:=lat (i-1) (by omega)
  rw[e'];show M.LessT (vN (ue qs) ls qs y).nm.length (lf (vN (ue qs) ls qs y).nm) (vN (ue qs) ls qs z).nm.length (lf (vN (ue qs) ls qs z).nm);rw[jE,jE];exact (udb _ _).2 (ugt h.asc (i-1) y z hy (by rw[show i-1+1=i by omega];exact hz))
theorem TxH.body{n:Nat}{qs:List Rl}{ls:List (List Int)}(h:TxH n qs ls){q:Rl}(hq:q∈qs):M.BodyOK (uT ls qs).nr (uT ls qs).nb (q.body.ops (ue qs) ls).length (df (q.body.ops (ue qs) ls)):=by
 have e1:(uT ls qs).nr=(ue qs).length:=by
  have e0:=congrArg List.length (qk ls qs);rw[List.length_map]at e0;exact e0
 have e2:(uT ls qs).nb=ls.length:=by show (uS (ue qs) ls qs).length=_;unfold uS;rw[List.length_map]
 rw[e1,e2];refine ulI (ue qs) ls q.body (h.tok q hq).2 (h.ok q hq).2.2.2.1 (fun z hz=>?_) (fun z hz=>?_)
 ·rw[ujK]at hz
  obtain⟨t,ht,rfl⟩:=List.mem_map.1 hz;exact h.refIn q hq t ht
 ·rw[ujL]at hz
  obtain⟨t,ht,rfl⟩:=List.mem_map.1 hz;exact h.thrIn q hq t ht
theorem TxH.bodies{n:Nat}{qs:List Rl}{ls:List (List Int)}(h:TxH n qs ls):kD (uT ls qs):=by
 refine⟨fun i hi=>?_,fun i hi=>?_⟩
 ·have hi':i<(uP (ue qs) ls qs).length:=hi
  have hx:=List.getElem?_eq_getElem hi';have hm:=List.getElem_mem hi';generalize (uP (ue qs) ls qs)[i]=x at hx hm;unfold uP at hm;obtain⟨q,hq,rfl⟩:=List.mem_map.1 hm;rw[qE hx];exact h.body (List.mem_filter.1 hq).1
 ·have hi':i<(uS (ue qs) ls qs).length:=hi
  have hx:=List.getElem?_eq_getElem hi';have hm:=List.getElem_mem hi';generalize (uS (ue qs) ls qs)[i]=x at hx hm;unfold uS at hm;obtain⟨z,hz,rfl⟩:=List.mem_map.1 hm;rw[uaH hx];unfold vN;cases hf:qs.find? (fun q=>q.car.isSome&&decide (q.name.nm=z)) with
  |none=>exact⟨fun q=>absurd (show false=true from q) (by simp),fun _=>rfl⟩
  |some q=>exact⟨fun _=>h.body (List.mem_of_find?_eq_some hf),fun q=>absurd (show true=false from q) (by simp)⟩
theorem uno(rs ls:List (List Int)):∀(e:PE),∀t∈e.thrT,opd 3 (vV t.nm ls 0)∈e.ops rs ls:=by
 intro e;induction e with
 |thr c t =>
   intro x hx;have:x=t:=by simpa[PE.thrT] using hx
   rw[this];simp[PE.ops,uf]
 |ref t=>intro x hx;cases hx
 |str t=>intro x hx;cases hx
 |cls t=>intro x hx;cases hx
 |dot t=>intro x hx;cases hx
 |grp o e c ih=>exact ih
 |star e t ih=>intro x hx;have:=ih x hx;simp[PE.ops,unD,this]
 |opt e t ih=>intro x hx;have:=ih x hx;simp[PE.ops,uw,this]
 |not t e ih=>intro x hx;have:=ih x hx;simp[PE.ops,unD,this]
 |amp t e ih=>intro x hx;have:=ih x hx;simp[PE.ops,unD,this]
 |emp=>intro x hx;cases hx
 |seq a b iha ihb=>intro x hx;rcases List.mem_append.1 hx with q | q;have:=iha x q;simp[PE.ops,uw,this];have:=ihb x q;simp[PE.ops,uw,this]
 |alt a t b iha ihb=>intro x hx;rcases List.mem_append.1 hx with q | q;have:=iha x q;simp[PE.ops,uw,this];have:=ihb x q;simp[PE.ops,uw,this]
theorem ujM{D:List OpD}{k:Nat}(h:opd 3 ((k:Nat):Int)∈D):M.Throws D.length (df D) k:=by
 obtain⟨i,hi⟩:=List.getElem?_of_mem h;exact⟨i,(List.getElem?_eq_some_iff.1 hi).1,by rw[qe hi];rfl,by rw[qe hi];rfl⟩
theorem ufE:∀{l:List (List Int)},Asc l→l.Nodup
 | [],_=>List.nodup_nil
 |x::r,h=>List.nodup_cons.2 ⟨fun q=>jb x (h.1 x q),ufE h.2⟩
theorem TxH.meant{n:Nat}{qs:List Rl}{ls:List (List Int)}(h:TxH n qs ls):ui3 (uT ls qs):=by
 intro i hi hh;rw[ucx];have hll:(uT ls qs).nb=ls.length:=by show (uS (ue qs) ls qs).length=_;unfold uS;rw[List.length_map]
 have hil:i<ls.length:=by omega
 have hz:ls[i]? = some ls[i]:=List.getElem?_eq_getElem hil;generalize ls[i]=z at hz;have lat:∀(j:Nat) (y:List Int),ls[j]? = some y→(uT ls qs).lab j=node (vN (ue qs) ls qs y):=fun j y hy=>uaH (by unfold uS;rw[List.getElem?_map,hy];rfl)
 rw[lat i z hz]at hh;have hzm:=List.mem_of_getElem? hz;have hix:vV z ls 0=((i:Nat):Int):=by rw[uax hzm,kC (ufE h.asc) hz,Nat.zero_add]
 have hno:∀q∈qs,q.car.isSome=true→q.name.nm≠z:=fun q hq hc e=>by
  have hs:∃q',qs.find? (fun q=>q.car.isSome&&decide (q.name.nm=z))=some q':=by
   cases hf:qs.find? (fun q=>q.car.isSome&&decide (q.name.nm=z)) with
   |none =>
    have:=List.find?_eq_none.1 hf q hq;simp[hc,e]at this
   |some q'=>exact⟨q',rfl⟩
  obtain⟨q',hf⟩:=hs;unfold vN at hh;rw[hf]at hh;have hh:true=false:=hh;cases hh
 rcases (h.mem z).1 hzm with hr | ⟨t,ht,etz⟩
 ·obtain⟨q,hq,e⟩:=List.mem_map.1 hr
  have hq':=List.mem_filter.1 hq;exact absurd e (hno q hq'.1 hq'.2)
 ·obtain⟨q,hq,ht⟩:=List.mem_flatMap.1 ht
  have hop:=uno (ue qs) ls q.body t ht;rw[etz,hix]at hop;have hthr:=ujM hop;cases hc:q.car.isSome with
  |false =>
   have hm:qu (ue qs) ls q∈uP (ue qs) ls qs:=List.mem_map.2 ⟨q,List.mem_filter.2 ⟨hq,by rw[hc];rfl⟩,rfl⟩
   obtain⟨j,hj⟩:=List.getElem?_of_mem hm;refine .inl ⟨j,(List.getElem?_eq_some_iff.1 hj).1,?_⟩;rw[qE hj];exact hthr
  |true =>
   obtain⟨j,hj⟩:=List.getElem?_of_mem (h.recIn q hq hc);refine .inr ⟨j,by rw[hll];exact (List.getElem?_eq_some_iff.1 hj).1,?_⟩
   rw[lat j _ hj];obtain⟨m,hm⟩:=List.getElem?_of_mem hq;have e:vN (ue qs) ls qs q.name.nm=⟨q.name.nm,true,q.body.ops (ue qs) ls⟩:=by
    have h0:vN (ue qs) ls (qs.take (m+1)) q.name.nm=⟨q.name.nm,true,q.body.ops (ue qs) ls⟩:=by
     rw[xe hm];exact udT hc (fun s hs=>uaR h.dup m q hm s (by simpa using hs))
    unfold vN at h0 ⊢;have h1:qs.find? (fun s=>s.car.isSome&&decide (s.name.nm=q.name.nm))=some q:=by
     conv=>lhs;rw[←List.take_append_drop (m+1) qs]
     rw[List.find?_append,xe hm,List.find?_append];have hn:(qs.take m).find? (fun s=>s.car.isSome&&decide (s.name.nm=q.name.nm))=none:=by
      rw[List.find?_eq_none];intro s hs;have:=uaR h.dup m q hm s (by simpa using hs)
      unfold xS at this;rw[hc]at this;simp at this ⊢;exact this
     rw[hn];simp[hc]
    rw[h1]
   rw[e];exact hthr
theorem TxH.valid{n:Nat}{qs:List Rl}{ls:List (List Int)}(h:TxH n qs ls):M.Valid (uT ls qs)↔¬ud4 (uT ls qs):=by
 rw[kh];refine⟨fun q=>q.2.1,fun q=>⟨?_,q,h.names,h.bodies,h.meant⟩⟩
 show 0<(uP (ue qs) ls qs).length;have e:=congrArg List.length (qk ls qs);rw[List.length_map]at e;rw[e];exact List.length_pos_iff.2 h.ne
end
section
open Go.RowKit
open M (OpD uj Gr)
theorem udA{t:Tx}{qs:List Rl}(h:uQ t=qs.flatMap Rl.tk):∀q∈qs,TokF t.n q.name∧∀x∈q.body.tk,TokF t.n x:=fun q hq=>by
 have key:∀x∈q.tk,TokF t.n x:=fun x hx=>(udU t).1 x (by rw[h];exact List.mem_flatMap.2 ⟨q,hq,hx⟩)
 exact⟨key _ (by simp[Rl.tk]),fun x hx=>key x (by simp[Rl.tk,hx])⟩
theorem uiD{t:Tx}{qs:List Rl}(h:uQ t=qs.flatMap Rl.tk)(hn:t.n≤4000):wtT (qs.flatMap Rl.tk)≤8000:=by
 rw[←h];exact Nat.le_trans (udU t).2 (by omega)
theorem unn:∀(e:PE),e.thrT.length≤e.tk.length:=by
 intro e;induction e with
 |thr c t=>simp[PE.thrT,PE.tk]
 |ref t=>simp[PE.thrT]
 |str t=>simp[PE.thrT]
 |cls t=>simp[PE.thrT]
 |dot t=>simp[PE.thrT]
 |grp o e c ih=>simp only[PE.thrT,PE.tk,List.length_cons,List.length_append];omega
 |star e t ih=>simp only[PE.thrT,PE.tk,List.length_append];omega
 |opt e t ih=>simp only[PE.thrT,PE.tk,List.length_append];omega
 |not t e ih=>simp only[PE.thrT,PE.tk,List.length_cons];omega
 |amp t e ih=>simp only[PE.thrT,PE.tk,List.length_cons];omega
 |emp=>simp[PE.thrT]
 |seq a b iha ihb=>simp only[PE.thrT,PE.tk,List.length_append];omega
 |alt a t b iha ihb=>simp only[PE.thrT,PE.tk,List.length_append,List.length_cons];omega
theorem uhE:∀(qs:List Rl),qs.length+(vK qs).length≤(qs.flatMap Rl.tk).length
 | []=>Nat.le_refl _
 |q::r=>by
  have h1:=uhE r;have h2:=unn q.body;have e:vK (q::r)=q.body.thrT++vK r:=rfl;rw[e,List.length_cons,List.flatMap_cons,List.length_append,List.length_append];have h3:q.body.tk.length+1≤q.tk.length:=by unfold Rl.tk;simp only[List.length_append,List.length_cons];omega
  omega
theorem ulE{t:Tx}{qs:List Rl}(h:uQ t=qs.flatMap Rl.tk)(hn:t.n≤4000):qs.length+(vK qs).length≤8000:=by
 have h1:=uiD h hn;have h2:=ui0 (qs.flatMap Rl.tk);have h3:=uhE qs;omega
theorem uhF{t:Tx}{qs:List Rl}(h:uQ t=qs.flatMap Rl.tk)(hn:t.n≤4000):NmQ qs:=fun q hq=>by
 have:=(udA h q hq).1;exact⟨this.byt,by have:=this.len;omega⟩
theorem uoY{t:Tx}{qs:List Rl}(h:uQ t=qs.flatMap Rl.tk)(hn:t.n≤4000):NmT (yc qs):=fun x hx=>by
 obtain⟨q,hq,hx⟩:=List.mem_flatMap.1 hx;have:=(udA h q hq).2 x (unm _ x hx);exact⟨this.byt,by have:=this.len;omega⟩
theorem ulF{t:Tx}{qs:List Rl}(h:uQ t=qs.flatMap Rl.tk)(hn:t.n≤4000):NmT (vK qs):=fun x hx=>by
 obtain⟨q,hq,hx⟩:=List.mem_flatMap.1 hx;have:=(udA h q hq).2 x (uiC _ x hx);exact⟨this.byt,by have:=this.len;omega⟩
theorem TxH.buH{t:Tx}{qs:List Rl}{ls:List (List Int)}(h:TxH t.n qs ls)(ht:uQ t=qs.flatMap Rl.tk)(hn:t.n≤4000):BuH qs ls :=
 ⟨uhF ht hn,h.dup,h.asc,h.recIn,h.refIn,h.thrIn,fun q hq=>(ufO (ue qs) ls hq (h.ok q hq) (uiD ht hn) (h.tok q hq).2 hn).1⟩
theorem TxH.smR{t:Tx}{qs:List Rl}{ls:List (List Int)}(h:TxH t.n qs ls)(ht:uQ t=qs.flatMap Rl.tk)(hn:t.n≤4000):∀x∈uP (ue qs) ls qs,SmNL x:=fun x hx=>by
 unfold uP at hx;obtain⟨q,hq,rfl⟩:=List.mem_map.1 hx;have hqm:=(List.mem_filter.1 hq).1;exact⟨by have:=(h.tok q hqm).1.len;show q.name.nm.length≤_;omega,(h.tok q hqm).1.byt,ufO _ _ hqm (h.ok q hqm) (uiD ht hn) (h.tok q hqm).2 hn⟩
theorem TxH.smL{t:Tx}{qs:List Rl}{ls:List (List Int)}(h:TxH t.n qs ls)(ht:uQ t=qs.flatMap Rl.tk)(hn:t.n≤4000):∀x∈uS (ue qs) ls qs,SmNL x:=fun x hx=>by
 have hb:∀z∈ls,BytL z∧z.length≤1000000:=fun z hz=>by
  rcases (h.mem z).1 hz with hr | ⟨x,hx,rfl⟩
  ·obtain⟨q,hq,rfl⟩:=List.mem_map.1 hr
   exact uhF ht hn q (List.mem_filter.1 hq).1
  ·exact ulF ht hn x hx
 unfold uS at hx;obtain⟨z,hz,rfl⟩:=List.mem_map.1 hx;refine⟨by rw[jE];have:=(hb z hz).2;omega,by rw[jE];exact (hb z hz).1,?_⟩
 unfold vN;split
 ·rename_i q hq
  have hqm:=List.mem_of_find?_eq_some hq;exact ufO _ _ hqm (h.ok q hqm) (uiD ht hn) (h.tok q hqm).2 hn
 ·exact⟨Nat.zero_le _,(fun x hx=>by cases hx)⟩
theorem TxH.nr{t:Tx}{qs:List Rl}{ls:List (List Int)}(ht:uQ t=qs.flatMap Rl.tk)(hn:t.n≤4000):(uP (ue qs) ls qs).length≤1048576:=by
 unfold uP;rw[List.length_map];have:=List.length_filter_le (fun q:Rl=>!q.car.isSome) qs
 have:=ulE ht hn;omega
theorem TxH.small{t:Tx}{qs:List Rl}{ls:List (List Int)}(h:TxH t.n qs ls)(ht:uQ t=qs.flatMap Rl.tk)(hn:t.n≤4000)(hl:ls.length≤1000000):yb (uT ls qs) :=
 uh0 (TxH.nr ht hn) (by unfold uS;rw[List.length_map];omega) (h.smR ht hn) (h.smL ht hn)
theorem uhG{t:Tx}{qs:List Rl}{p:Nat}(hn:t.n≤4000)(ht:uQ t=qs.flatMap Rl.tk)(hok:∀q∈qs,q.ok)(hrd:vQ t.n ((uQ t).length+1) (uQ t)=.inr qs)(h:uiw t.n qs p):PRs t 6 (p:Nat) kK:=by
 refine .inr ⟨hn,.inr ⟨qs,hrd,?_⟩⟩;unfold qM;have hr:=uag (ue qs) qs hok;rcases h with h | ⟨h1,h | ⟨h2,h3,h4⟩⟩
 ·rw[h];exact⟨rfl,rfl,rfl⟩
 ·rw[hr]at h
  rw[h1,h];exact⟨rfl,rfl,rfl⟩
 ·rw[hr]at h2
  rw[h1,h2,h4];simp only[h3,if_true];exact⟨trivial,trivial,trivial⟩
theorem udB{t:Tx}{qs:List Rl}{ls:List (List Int)}{code at_:Int}{g:Gr}(hn:t.n≤4000)(ht:uQ t=qs.flatMap Rl.tk)(hrd:vQ t.n ((uQ t).length+1) (uQ t)=.inr qs)(h:TxH t.n qs ls)(hr:(M.Valid (uT ls qs)∧code=0∧at_=0∧g=uT ls qs)∨(¬M.Valid (uT ls qs)∧code=7∧at_=0∧g=kK)):PRs t code at_ g:=by
 refine .inr ⟨hn,.inr ⟨qs,hrd,?_⟩⟩;unfold qM;have e:=uag (ue qs) qs h.ok;rw[h.refs]at e;rw[h.dup,←e];simp only[h.ne,if_false];exact⟨ls,h.asc,fun z=>(h.mem z).trans (ugp h.ok z).symm,hr⟩
end
end Go.Proofs.YthicmmhmmfhncaaGreat
