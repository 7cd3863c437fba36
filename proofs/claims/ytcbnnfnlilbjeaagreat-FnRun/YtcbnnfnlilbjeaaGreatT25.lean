import Derived.Test.YtcbnnfnlilbjeaaGreatT08
set_option linter.unusedVariables false
set_option linter.unusedSimpArgs false
namespace Go.Proofs.YtcbnnfnlilbjeaaGreat
section
open Go.RowKit
open M (OpD NodeD Gr InsD)
theorem hasP_congr{S T:Nat→Int}{b:Int}{m:Nat}(h:∀i,i<2*m→S i=T i):hasP S b m=hasP T b m:=by
 induction m with
 |zero=>rfl
 |succ m ih=>rw[hasP,hasP,ih (fun i hi=>h i (by omega)),h (2*m) (by omega),h (2*m+1) (by omega)]
def lf(l:List Int)(i:Nat):Int:=l.getD i 0
theorem lf_left(l r:List Int){i:Nat}(h:i<l.length):lf (l++r) i=lf l i:=by
 unfold lf;rw[List.getD_eq_getElem?_getD,List.getD_eq_getElem?_getD,List.getElem?_append_left h]
theorem lf_right(l r:List Int)(i:Nat):lf (l++r) (l.length+i)=lf r i:=by
 unfold lf;rw[List.getD_eq_getElem?_getD,List.getD_eq_getElem?_getD,List.getElem?_append_right (by omega)]
 congr 2;omega
structure RgI(M:Nat→Bool)(b:Nat)(l:List Int):Prop where
 even:(b=0∨M (b-1)=false∨b=256∨M b=false)→l.length%2=0∧∀c:Nat,hasN l.length (lf l) c=(decide (c<b)&&M c)
 odd:¬(b=0∨M (b-1)=false∨b=256∨M b=false)→∃s:Nat,s<b∧l.length%2=1∧lf l (l.length-1)=(s:Int)∧(∀c,s≤c→c≤b→M c=true)∧∀c:Nat,hasN l.length (lf l) c=(decide (c<s)&&M c)
theorem hasN_left{l r:List Int}{c:Int}(hl:(l++r).length / 2=l.length / 2):hasN (l++r).length (lf (l++r)) c=hasN l.length (lf l) c:=by
 unfold hasN;rw[hl];exact hasP_congr (fun i hi=>lf_left l r (by omega))
theorem rg_inv(M:Nat→Bool)(b:Nat)(hb:b≤256):RgI M b (rg M b):=by
 induction b with
 |zero=>exact⟨fun _=>⟨rfl,fun c=>by simp[rg,hasN,hasP]⟩,fun h=>absurd (.inl rfl) h⟩
 |succ b ih =>
  have k:=ih (by omega)
  have hs:rg M (b+1)=rg M b++((if M b&&(b==0||!M (b-1)) then [(b:Int)] else [])++(if M b&&(b==255||!M (b+1)) then [(b:Int)] else [])):=rfl
  generalize rg M b=l at *;cases hM:M b with
  |false =>
   have e:rg M (b+1)=l:=by rw[hs];simp[hM]
   rw[e];obtain⟨k1,k2⟩:=k.even (.inr (.inr (.inr hM)));refine⟨fun _=>⟨k1,fun c=>?_⟩,fun h=>absurd (.inr (.inl (by simpa using hM))) h⟩
   rw[k2 c];by_cases q:c=b
   ·subst q;simp[hM]
   ·have:(c<b)↔(c<b+1):=by omega
    simp[this]
  |true =>
   by_cases hcont:b+1=256∨M (b+1)=false
   ·
    have hend:(M b&&(b==255||!M (b+1)))=true:=by
     rcases hcont with q | q
     ·have:b=255:=by omega
      subst this;simp[hM]
     ·simp[hM,q]
    rw[hend]at hs;refine⟨fun _=>?_,fun h=>absurd (.inr (.inr (by rcases hcont with q | q;exact .inl q;exact .inr q))) h⟩
    by_cases hbeg:b=0∨M (b-1)=false
    ·have hb2:(M b&&(b==0||!M (b-1)))=true:=by
      rcases hbeg with q | q
      ·subst q;simp[hM]
      ·simp[hM,q]
     rw[hb2]at hs;simp only[if_true]at hs;obtain⟨k1,k2⟩:=k.even (by rcases hbeg with q | q;exact .inl q;exact .inr (.inl q))
     rw[hs];have hlen:(l++([(b:Int)]++[(b:Int)])).length=l.length+2:=by simp
     refine⟨by rw[hlen];omega,fun c=>?_⟩
     have e1:hasN (l++([(b:Int)]++[(b:Int)])).length (lf (l++([(b:Int)]++[(b:Int)]))) c=(hasN l.length (lf l) c||(decide ((b:Int)≤c)&&decide ((c:Int)≤b))):=by
      unfold hasN;rw[hlen,show (l.length+2) / 2=l.length / 2+1 by omega,hasP,hasP_congr (T:=lf l) (fun i hi=>lf_left _ _ (by omega))]
      have p0:=lf_right l ([(b:Int)]++[(b:Int)]) 0;have p1:=lf_right l ([(b:Int)]++[(b:Int)]) 1;rw[show 2*(l.length / 2)=l.length+0 by omega,p0,show l.length+0+1=l.length+1 by omega,p1]
      rfl
     rw[e1,k2 c];by_cases q:c=b
     ·subst q;simp[hM]
     ·have h1:(c<b+1)↔(c<b):=by omega
      have h2:¬((b:Int)≤c∧(c:Int)≤b):=by omega
      by_cases h3:(b:Int)≤c
      ·have h4:¬(c:Int)≤b:=by omega
       simp[h1,h4]
      ·simp[h1];omega
    ·have hb2:(M b&&(b==0||!M (b-1)))=false:=by
      simp only[not_or]at hbeg;have:M (b-1)=true:=by simpa using hbeg.2
      simp[hbeg.1,this]
     rw[hb2]at hs;simp only[if_true,Bool.false_eq_true,if_false,List.nil_append]at hs;have hno:¬(b=0∨M (b-1)=false∨b=256∨M b=false):=by
      simp only[not_or]at hbeg ⊢;exact⟨hbeg.1,hbeg.2,by omega,by simp[hM]⟩
     obtain⟨s,s1,s2,s3,s4,s5⟩:=k.odd hno;rw[hs];have hlen:(l++[(b:Int)]).length=l.length+1:=by simp
     refine⟨by rw[hlen];omega,fun c=>?_⟩
     have e1:hasN (l++[(b:Int)]).length (lf (l++[(b:Int)])) c=(hasN l.length (lf l) c||(decide ((s:Int)≤c)&&decide ((c:Int)≤b))):=by
      unfold hasN;rw[hlen,show (l.length+1) / 2=l.length / 2+1 by omega,hasP,hasP_congr (T:=lf l) (fun i hi=>lf_left _ _ (by omega))]
      have p1:=lf_right l [(b:Int)] 0;rw[lf_left _ _ (show 2*(l.length / 2)<l.length by omega),show 2*(l.length / 2)=l.length-1 by omega,s3,show l.length-1+1=l.length+0 by omega,p1]
      rfl
     rw[e1,s5 c];by_cases q:c<s
     ·have:c<b+1:=by omega
      have h2:¬(s:Int)≤c:=by omega
      simp[q,this];intro h;omega
     ·by_cases q2:c≤b
      ·rw[s4 c (by omega) q2]
       have:(s:Int)≤c:=by omega
       have h3:(c:Int)≤b:=by omega
       have h4:c<b+1:=by omega
       simp[this,h3,h4]
      ·have h3:¬(c:Int)≤b:=by omega
       have h4:¬c<b+1:=by omega
       simp[q,h3,h4]
   ·
    have hend:(M b&&(b==255||!M (b+1)))=false:=by
     simp only[not_or]at hcont;have:M (b+1)=true:=by simpa using hcont.2
     have h2:b≠255:=by omega
     simp[this,h2]
    rw[hend]at hs;have hgo:M (b+1)=true:=by simp only[not_or]at hcont;simpa using hcont.2
    refine⟨fun h=>absurd h (by simp only[not_or]at hcont ⊢;exact⟨by omega,by simp[hM],hcont.1,hcont.2⟩),fun _=>?_⟩
    by_cases hbeg:b=0∨M (b-1)=false
    ·have hb2:(M b&&(b==0||!M (b-1)))=true:=by
      rcases hbeg with q | q
      ·subst q;simp[hM]
      ·simp[hM,q]
     rw[hb2]at hs;simp only[if_true,Bool.false_eq_true,if_false,List.append_nil]at hs;obtain⟨k1,k2⟩:=k.even (by rcases hbeg with q | q;exact .inl q;exact .inr (.inl q))
     rw[hs];have hlen:(l++[(b:Int)]).length=l.length+1:=by simp
     refine⟨b,by omega,by rw[hlen];omega,?_,fun c h1 h2=>?_,fun c=>?_⟩
     ·rw[hlen,show l.length+1-1=l.length+0 by omega,lf_right];rfl
     ·rcases Nat.lt_or_ge b c with q | q
      ·obtain rfl:c=b+1:=by omega
       exact hgo
      ·obtain rfl:c=b:=by omega
       exact hM
     ·rw[hasN_left (by rw[hlen];omega),k2 c]
    ·have hb2:(M b&&(b==0||!M (b-1)))=false:=by
      simp only[not_or]at hbeg;have:M (b-1)=true:=by simpa using hbeg.2
      simp[hbeg.1,this]
     rw[hb2]at hs;simp only[Bool.false_eq_true,if_false,List.append_nil]at hs;have hno:¬(b=0∨M (b-1)=false∨b=256∨M b=false):=by
      simp only[not_or]at hbeg ⊢;exact⟨hbeg.1,hbeg.2,by omega,by simp[hM]⟩
     obtain⟨s,s1,s2,s3,s4,s5⟩:=k.odd hno;rw[hs];refine⟨s,by omega,s2,s3,fun c h1 h2=>?_,s5⟩
     rcases Nat.lt_or_ge b c with q | q
     ·obtain rfl:c=b+1:=by omega
      exact hgo
     ·exact s4 c h1 (by omega)
theorem rg_has(M:Nat→Bool){c:Nat}(hc:c<256):hasN (rg M 256).length (lf (rg M 256)) c=M c:=by
 obtain⟨_,h⟩:=(rg_inv M 256 (Nat.le_refl _)).even (.inr (.inr (.inl rfl)));rw[h c];simp[hc]
theorem rg_congr{M N:Nat→Bool}{b:Nat}(hb:b≤256)(h:∀c,c<256→M c=N c):rg M b=rg N b:=by
 induction b with
 |zero=>rfl
 |succ b ih =>
  rw[rg,rg,ih (by omega),h b (by omega)]
  rw[h (b-1) (by omega)]
  by_cases q:b=255
  ·subst q;simp
  ·rw[h (b+1) (by omega)]
def MSt.note(s:MSt)(n:Nat)(S:Nat→Int):MSt :=
 if s.far<s.pos then { s with far:=s.pos,exp:=fun b=>hasN n S (b:Int) }
 else if s.pos=s.far then { s with exp:=fun b=>hasN n S (b:Int)||s.exp b } else s
def MSt.test(s:MSt)(n:Nat)(S:Nat→Int)(il:Nat)(I:Nat→Int):MSt :=
 if s.pos<il∧hasN n S (I s.pos)=true then { s with pos:=s.pos+1,at_:=s.at_+1 }
 else (if s.inNot then s else s.note n S).fail
def MSt.pop(s:MSt):MSt:={ s with st:=s.st.dropLast }
def MSt.enter(s:MSt)(x:InsD)(most:Int):MSt:=({ s with at_:=x.to }).push ⟨2,s.at_+1,0,0⟩ most
def MSt.put(s:MSt)(k a:Int):MSt:={ s with log:=s.log++[⟨k,a,s.pos⟩],at_:=s.at_+1 }
def MSt.hold(s:MSt)(k to most:Int):MSt:=({ s with at_:=s.at_+1 }).push ⟨k,to,s.pos,s.log.length⟩ most
def topTo(l:List FrD):Int:=match l.getLast? with | none=>0 | some f=>f.to
def MSt.act(s:MSt)(x:InsD)(il:Nat)(I:Nat→Int)(most:Int):MSt :=
 if x.kind=0 then s.test x.sl x.set il I
 else if x.kind=1 then s.hold 0 x.to most
 else if x.kind=4 then s.hold 1 x.to most
 else if x.kind=6 then s.enter x most
 else if x.kind=8 then (if s.inNot then s.fail else if x.to<0 then ({ s with throws:=s.throws+1,label:=x.arg }).fin 2 else ({ s with throws:=s.throws+1 }).enter x most)
 else if x.kind=2∧s.top 0=true then { s.pop with at_:=x.to }
 else if x.kind=3∧s.top 0=true then ({ s.pop with at_:=x.to }).push ⟨0,topTo s.st,s.pos,s.log.length⟩ most
 else if x.kind=5∧s.top 1=true then s.pop.fail
 else if x.kind=7∧s.top 2=true then { s.pop with at_:=topTo s.st }
 else if x.kind=9 then s.put 0 x.arg
 else if x.kind=10 then s.put 1 x.arg
 else if x.kind=11 then s.put 2 x.arg
 else if x.kind=12∧s.st.length=0 then s.fin 0
 else s.fin 4
def MSt.next(s:MSt)(n:Nat)(R:Nat→InsD)(il:Nat)(I:Nat→Int)(fuel most:Int):MSt :=
 if s.at_<0∨(n:Int)≤s.at_ then s.fin 4
 else if (s.steps:Int)=fuel then s.fin 3
 else ({ s with steps:=s.steps+1 }).act (R s.at_.toNat) il I most
inductive Ends(n:Nat)(R:Nat→InsD)(il:Nat)(I:Nat→Int)(fuel most:Int):MSt→MSt→Prop
 |over {s:MSt}:s.done=true→Ends n R il I fuel most s s
 |go {s t:MSt}:s.done=false→Ends n R il I fuel most (s.next n R il I fuel most) t→Ends n R il I fuel most s t
structure Good(most:Int)(s:MSt):Prop where
 len:(s.st.length:Int)≤most
 logs:s.log.length≤s.steps
 last:∀f,f∈s.st→f.kind≠2→f.log≤s.log.length
 asc:s.st.Pairwise (fun f g=>f.kind≠2→g.kind≠2→f.log≤g.log)
 kinds:∀f,f∈s.st→f.kind=0∨f.kind=1∨f.kind=2
theorem Good.fin{most:Int}{s:MSt}(h:Good most s)(c:Int):Good most (s.fin c):=⟨h.len,h.logs,h.last,h.asc,h.kinds⟩
theorem unwind_some{l r:List FrD}{f:FrD}(h:unwind l=some (f,r)):f.kind≠2∧∃p,l=p++f::r:=by
 induction l with
 |nil=>simp[unwind]at h
 |cons x l ih =>
  rw[unwind]at h;by_cases e:x.kind=2
  ·rw[if_pos e]at h
   obtain⟨h1,p,rfl⟩:=ih h;exact⟨h1,x::p,rfl⟩
  ·rw[if_neg e]at h
   cases h
   exact⟨e,[],rfl⟩
theorem Good.fail{most:Int}{s:MSt}(h:Good most s):Good most s.fail:=by
 unfold MSt.fail;cases hu:unwind s.st.reverse with
 |none=>exact h.fin 1
 |some p =>
  obtain⟨f,r⟩:=p;obtain⟨hk,p,hp⟩:=unwind_some hu;have hst:s.st=r.reverse++(f::p.reverse):=by
   have:=congrArg List.reverse hp;simpa using this
  have hf:f∈s.st:=by rw[hst];simp
  have hl:=h.last f hf hk;have ha:=h.asc;rw[hst,List.pairwise_append]at ha;obtain⟨a1,a2,a3⟩:=ha;refine⟨?_,?_,?_,a1,fun g hg=>h.kinds g (by rw[hst];exact List.mem_append_left _ hg)⟩
  ·have:=h.len
   rw[hst,List.length_append]at this;show ((r.reverse.length:Nat):Int)≤most;omega
  ·show (s.log.take f.log).length≤s.steps
   have:=h.logs;rw[List.length_take];omega
  ·intro g hg hgk
   show g.log≤(s.log.take f.log).length;rw[List.length_take,Nat.min_eq_left hl];exact a3 g hg f (List.mem_cons_self) hgk hk
theorem Good.push{most:Int}{s:MSt}(h:Good most s)(f:FrD)(hf:f.kind≠2→f.log=s.log.length)(hk:f.kind=0∨f.kind=1∨f.kind=2):Good most (s.push f most):=by
 unfold MSt.push;split
 ·exact h.fin 3
 ·rename_i hlt
  refine⟨?_,h.logs,fun g hg hgk=>?_,?_,fun g hg=>?_⟩
  ·show (((s.st++[f]).length:Nat):Int)≤most
   rw[List.length_append,List.length_singleton];omega
  ·rcases List.mem_append.1 hg with q | q
   ·exact h.last g q hgk
   ·simp at q;subst q;show g.log≤s.log.length;rw[hf hgk];exact Nat.le_refl _
  ·show (s.st++[f]).Pairwise _
   rw[List.pairwise_append];refine⟨h.asc,by simp,fun x hx y hy h1 h2=>?_⟩
   simp at hy;subst hy;rw[hf h2];exact h.last x hx h1
  ·rcases List.mem_append.1 hg with q | q
   ·exact h.kinds g q
   ·simp at q;subst q;exact hk
theorem Good.pop{most:Int}{s:MSt}(h:Good most s):Good most s.pop:=by
 refine⟨?_,h.logs,fun g hg=>h.last g (List.dropLast_subset _ hg),h.asc.sublist (List.dropLast_sublist _),fun g hg=>h.kinds g (List.dropLast_subset _ hg)⟩
 have:=h.len;show ((s.st.dropLast.length:Nat):Int)≤most;rw[List.length_dropLast];omega
theorem Good.at{most:Int}{s:MSt}(h:Good most s)(z:Int):Good most { s with at_:=z }:=⟨h.len,h.logs,h.last,h.asc,h.kinds⟩
theorem Good.note{most:Int}{s:MSt}(h:Good most s)(n:Nat)(S:Nat→Int):Good most (s.note n S):=by
 unfold MSt.note;split
 ·exact⟨h.len,h.logs,h.last,h.asc,h.kinds⟩
 ·split
  ·exact⟨h.len,h.logs,h.last,h.asc,h.kinds⟩
  ·exact h
theorem Good.test{most:Int}{s:MSt}(h:Good most s)(n:Nat)(S:Nat→Int)(il:Nat)(I:Nat→Int):Good most (s.test n S il I):=by
 unfold MSt.test;split
 ·exact⟨h.len,h.logs,h.last,h.asc,h.kinds⟩
 ·refine Good.fail ?_
  split
  ·exact h
  ·exact h.note n S
theorem Good.enter{most:Int}{s:MSt}(h:Good most s)(x:InsD):Good most (s.enter x most):=(h.at x.to).push _ (fun q=>absurd rfl q) (.inr (.inr rfl))
theorem Good.hold{most:Int}{s:MSt}(h:Good most s)(k to:Int)(hk:k=0∨k=1):Good most (s.hold k to most):=(h.at (s.at_+1)).push _ (fun _=>rfl) (by rcases hk with q | q;exact .inl q;exact .inr (.inl q))
theorem act_good{most:Int}{s:MSt}(h:Good most s)(hl:s.log.length<s.steps)(x:InsD)(il:Nat)(I:Nat→Int):Good most (s.act x il I most):=by
 have hput:∀k a,Good most (s.put k a):=fun k a=>by
  refine⟨h.len,?_,fun g hg hk=>?_,h.asc,h.kinds⟩
  ·show (s.log++[_]).length≤s.steps
   rw[List.length_append,List.length_singleton];omega
  ·show g.log≤(s.log++[_]).length
   have:=h.last g hg hk;rw[List.length_append];omega
 unfold MSt.act;by_cases q:x.kind=0
 ·rw[if_pos q];exact h.test _ _ _ _
 rw[if_neg q];clear q;by_cases q:x.kind=1
 ·rw[if_pos q];exact h.hold _ _ (.inl rfl)
 rw[if_neg q];clear q;by_cases q:x.kind=4
 ·rw[if_pos q];exact h.hold _ _ (.inr rfl)
 rw[if_neg q];clear q;by_cases q:x.kind=6
 ·rw[if_pos q];exact h.enter x
 rw[if_neg q];clear q;by_cases q:x.kind=8
 ·rw[if_pos q]
  by_cases q2:s.inNot=true
  ·rw[if_pos q2];exact h.fail
  rw[if_neg q2];by_cases q3:x.to<0
  ·rw[if_pos q3];exact⟨h.len,h.logs,h.last,h.asc,h.kinds⟩
  ·rw[if_neg q3];exact Good.enter (s:={ s with throws:=s.throws+1 }) ⟨h.len,h.logs,h.last,h.asc,h.kinds⟩ x
 rw[if_neg q];clear q;by_cases q:x.kind=2∧s.top 0=true
 ·rw[if_pos q];exact h.pop.at _
 rw[if_neg q];clear q;by_cases q:x.kind=3∧s.top 0=true
 ·rw[if_pos q];exact (h.pop.at _).push _ (fun _=>rfl) (.inl rfl)
 rw[if_neg q];clear q;by_cases q:x.kind=5∧s.top 1=true
 ·rw[if_pos q];exact h.pop.fail
 rw[if_neg q];clear q;by_cases q:x.kind=7∧s.top 2=true
 ·rw[if_pos q];exact h.pop.at _
 rw[if_neg q];clear q;by_cases q:x.kind=9
 ·rw[if_pos q];exact hput _ _
 rw[if_neg q];clear q;by_cases q:x.kind=10
 ·rw[if_pos q];exact hput _ _
 rw[if_neg q];clear q;by_cases q:x.kind=11
 ·rw[if_pos q];exact hput _ _
 rw[if_neg q];clear q;by_cases q:x.kind=12∧s.st.length=0
 ·rw[if_pos q];exact h.fin 0
 rw[if_neg q];clear q;exact h.fin 4
theorem next_good{most fuel:Int}{s:MSt}{n:Nat}{R:Nat→InsD}{il:Nat}{I:Nat→Int}(h:Good most s):Good most (s.next n R il I fuel most):=by
 unfold MSt.next;split;· exact h.fin 4
 split;· exact h.fin 3
 refine act_good (s:={ s with steps:=s.steps+1 }) ⟨h.len,?_,h.last,h.asc,h.kinds⟩ ?_ _ _ _
 ·show s.log.length≤s.steps+1;have:=h.logs;omega
 ·show s.log.length<s.steps+1;have:=h.logs;omega
theorem act_steps{most:Int}{s:MSt}(x:InsD)(il:Nat)(I:Nat→Int):(s.act x il I most).steps=s.steps:=by
 have hfail:∀s:MSt,s.fail.steps=s.steps:=fun s=>by unfold MSt.fail;split<;>rfl
 have hpush:∀(s:MSt) f,(s.push f most).steps=s.steps:=fun s f=>by unfold MSt.push;split<;>rfl
 have hnote:∀(s:MSt) n S,(s.note n S).steps=s.steps:=fun s n S=>by unfold MSt.note;split<;>(try split)<;>rfl
 unfold MSt.act;by_cases q:x.kind=0
 ·rw[if_pos q]
  unfold MSt.test;split
  ·rfl
  ·rw[hfail];split
   ·rfl
   ·exact hnote _ _ _
 rw[if_neg q];clear q;by_cases q:x.kind=1
 ·rw[if_pos q];first|rfl | exact hpush _ _ | exact hfail _
 rw[if_neg q];clear q;by_cases q:x.kind=4
 ·rw[if_pos q];first|rfl | exact hpush _ _ | exact hfail _
 rw[if_neg q];clear q;by_cases q:x.kind=6
 ·rw[if_pos q];first|rfl | exact hpush _ _ | exact hfail _
 rw[if_neg q];clear q;by_cases q:x.kind=8
 ·rw[if_pos q]
  by_cases q2:s.inNot=true
  ·rw[if_pos q2];exact hfail _
  rw[if_neg q2];by_cases q3:x.to<0
  ·rw[if_pos q3];rfl
  ·rw[if_neg q3];exact hpush _ _
 rw[if_neg q];clear q;by_cases q:x.kind=2∧s.top 0=true
 ·rw[if_pos q];first|rfl | exact hpush _ _ | exact hfail _
 rw[if_neg q];clear q;by_cases q:x.kind=3∧s.top 0=true
 ·rw[if_pos q];first|rfl | exact hpush _ _ | exact hfail _
 rw[if_neg q];clear q;by_cases q:x.kind=5∧s.top 1=true
 ·rw[if_pos q];first|rfl | exact hpush _ _ | exact hfail _
 rw[if_neg q];clear q;by_cases q:x.kind=7∧s.top 2=true
 ·rw[if_pos q];first|rfl | exact hpush _ _ | exact hfail _
 rw[if_neg q];clear q;by_cases q:x.kind=9
 ·rw[if_pos q];first|rfl | exact hpush _ _ | exact hfail _
 rw[if_neg q];clear q;by_cases q:x.kind=10
 ·rw[if_pos q];first|rfl | exact hpush _ _ | exact hfail _
 rw[if_neg q];clear q;by_cases q:x.kind=11
 ·rw[if_pos q];first|rfl | exact hpush _ _ | exact hfail _
 rw[if_neg q];clear q;by_cases q:x.kind=12∧s.st.length=0
 ·rw[if_pos q];first|rfl | exact hpush _ _ | exact hfail _
 rw[if_neg q];clear q;rfl
theorem next_measure{most fuel:Int}{s:MSt}{n:Nat}{R:Nat→InsD}{il:Nat}{I:Nat→Int}(hd:s.done=false)(hf:(s.steps:Int)≤fuel) :
  (((s.next n R il I fuel most).steps:Int)≤fuel)∧((s.next n R il I fuel most).done=true∧(s.next n R il I fuel most).steps=s.steps∨(s.next n R il I fuel most).steps=s.steps+1):=by
 unfold MSt.next;by_cases q:s.at_<0∨(n:Int)≤s.at_
 ·rw[if_pos q];exact⟨hf,.inl ⟨rfl,rfl⟩⟩
 rw[if_neg q];by_cases q2:(s.steps:Int)=fuel
 ·rw[if_pos q2];exact⟨hf,.inl ⟨rfl,rfl⟩⟩
 rw[if_neg q2,act_steps];exact⟨by show ((s.steps+1:Nat):Int)≤fuel;omega,.inr rfl⟩
theorem ends_some{n:Nat}{R:Nat→InsD}{il:Nat}{I:Nat→Int}{fuel most:Int}:∀(k:Nat) (s:MSt),(s.steps:Int)≤fuel→(fuel-s.steps).toNat≤k→∃t,Ends n R il I fuel most s t
 |k,s,hf,hk=>by
  cases hd:s.done with
  |true=>exact⟨s,.over hd⟩
  |false =>
   obtain⟨h1,h2⟩:=next_measure (n:=n) (R:=R) (il:=il) (I:=I) (most:=most) hd hf;rcases h2 with⟨h2,_⟩ | h2
   ·exact⟨_,.go hd (.over h2)⟩
   ·cases k with
    |zero=>omega
    |succ k =>
     obtain⟨t,ht⟩:=ends_some k _ h1 (by rw[h2];omega)
     exact⟨t,.go hd ht⟩
theorem Ends.next{n:Nat}{R:Nat→InsD}{il:Nat}{I:Nat→Int}{fuel most:Int}{s t:MSt}(h:Ends n R il I fuel most s t)(hd:s.done=false):Ends n R il I fuel most (s.next n R il I fuel most) t:=by
 cases h with
 |over q=>rw[hd]at q;cases q
 |go _ q=>exact q
theorem Ends.same{n:Nat}{R:Nat→InsD}{il:Nat}{I:Nat→Int}{fuel most:Int}{s t:MSt}(h:Ends n R il I fuel most s t)(hd:s.done=true):t=s:=by
 cases h with
 |over q=>rfl
 |go q _=>rw[hd]at q;cases q
def ExA(Q:Nat→Prop)(w:World)(xa:Option Addr)(xn:Nat)(M:Nat→Bool):Prop:=xn=(rg M 256).length∧Ints Q .i64 w xa xn (lf (rg M 256))
theorem ExA.later{Q:Nat→Prop}{w w':World}{xa:Option Addr}{xn:Nat}{M:Nat→Bool}(h:ExA Q w xa xn M)(k:Below w.heap.size w w'):ExA Q w' xa xn M:=⟨h.1,h.2.later k⟩
theorem ExA.wide{Q Q':Nat→Prop}{w:World}{xa:Option Addr}{xn:Nat}{M:Nat→Bool}(h:ExA Q w xa xn M)(k:∀b,Q b→Q' b):ExA Q' w xa xn M:=⟨h.1,h.2.wide k⟩
theorem ExA.on{Q:Nat→Prop}{w w':World}{xa:Option Addr}{xn:Nat}{M:Nat→Bool}(h:ExA Q w xa xn M)(k:Stay Q w w'):ExA Q w' xa xn M:=⟨h.1,h.2.on k⟩
theorem ExA.le{Q:Nat→Prop}{w:World}{xa:Option Addr}{xn:Nat}{M:Nat→Bool}(h:ExA Q w xa xn M):xn≤512:=by rw[h.1];exact rg_len M 256
theorem ownL_lf{w0 w:World}{a:Option Addr}{c:Nat}{l:List Int}(h:OwnL w0 w (.slice a l.length c) l):Ints (New w0 w) .i64 w a l.length (lf l):=by
 obtain⟨P,ho,hp,hb⟩:=h;rcases ho with⟨_,e,_⟩|⟨g,cap,e,hq,hl,hc,hcell,hw⟩
 ·exact .inl e
 ·obtain rfl:a=some ⟨g,0,none⟩:=by injection e
  refine .inr ⟨g,0,rfl,hp g hq,fun i hi=>?_⟩
  have h1:=hcell i (by simp only[intsV,List.length_map];exact hi)
  rw[Nat.zero_add,h1];simp only[intsV,List.getElem?_map,lf,List.getD_eq_getElem?_getD,List.getElem?_eq_getElem hi];rfl
theorem ownL_ex{w0 w:World}{a:Option Addr}{c:Nat}{M N:Nat→Bool}(h:OwnL w0 w (.slice a (rg M 256).length c) (rg M 256))(hMN:∀b,b<256→M b=N b):ExA (New w0 w) w a (rg M 256).length N:=by
 have e:=rg_congr (b:=256) (Nat.le_refl _) hMN;have h2:=ownL_lf h;unfold ExA;rw[←e];exact⟨Eq.refl _,h2⟩
theorem cell_setB{w:World}{b o c j:Nat}{v u:Value}(hne:b≠c)(h:w.cell? ⟨b,o,none⟩=some v):(w.setCell ⟨c,j,none⟩ u).cell? ⟨b,o,none⟩=some v:=(World.cell?_of_block (a:=⟨b,o,none⟩) (Below.heap_setCell _ _ _ _ hne)).trans h
theorem cell_setO{w:World}{b o j:Nat}{v u:Value}(hne:o≠j)(h:w.cell? ⟨b,o,none⟩=some v):(w.setCell ⟨b,j,none⟩ u).cell? ⟨b,o,none⟩=some v:=(cell_set_other (fun e=>hne e.symm)).trans h
end
end Go.Proofs.YtcbnnfnlilbjeaaGreat
