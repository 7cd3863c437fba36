import Derived.Test.YthicmmhmmfhncaaGreatT24
import Derived.Test.YthicmmhmmfhncaaGreatT25
set_option linter.unusedVariables false
set_option linter.unusedSimpArgs false
namespace Go.Proofs.YthicmmhmmfhncaaGreat
section
open Go.RowKit
open M (OpD uj Gr)
def PE.refT:PE→List Tok
 | .ref t=>[t]
 | .thr _ _=>[]
 | .str _=>[]
 | .cls _=>[]
 | .dot _=>[]
 | .grp _ e _=>e.refT
 | .star e _=>e.refT
 | .opt e _=>e.refT
 | .not _ e=>e.refT
 | .amp _ e=>e.refT
 | .emp=>[]
 | .seq a b=>a.refT++b.refT
 | .alt a _ b=>a.refT++b.refT
def PE.thrT:PE→List Tok
 | .ref _=>[]
 | .thr _ t=>[t]
 | .str _=>[]
 | .cls _=>[]
 | .dot _=>[]
 | .grp _ e _=>e.thrT
 | .star e _=>e.thrT
 | .opt e _=>e.thrT
 | .not _ e=>e.thrT
 | .amp _ e=>e.thrT
 | .emp=>[]
 | .seq a b=>a.thrT++b.thrT
 | .alt a _ b=>a.thrT++b.thrT
def tkC(x:Tok)(s:Value):List Value:=[.int .u8 (kk x.kind),.int .i64 (x.at_:Nat),.string (str x.nm.length (lf x.nm)),s]
def TkCs:List Tok→List Value→Prop
 | [],cs=>cs = []
 |x::r,cs=>∃a n c d,cs=tkC x (.slice a n c)++d∧TkCs r d
theorem TkCs.snoc{x:Tok}{a:Option Addr}{n c:Nat}:∀{l:List Tok} {cs:List Value},TkCs l cs→TkCs (l++[x]) (cs++tkC x (.slice a n c))
 | [],cs,h=>by
  have h:cs = []:=h;subst h;exact⟨a,n,c,[],by simp,rfl⟩
 |y::r,cs,h=>by
  obtain⟨a',n',c',d,e,h⟩:=h;subst e;exact⟨a',n',c',d++tkC x (.slice a n c),by simp,TkCs.snoc h⟩
def TkRow(Q:Nat→Prop)(w:World)(v:Value)(l:List Tok):Prop:=∃cs,OwnC Q w v 4 l.length cs∧TkCs l cs
theorem TkRow.on{Q Q':Nat→Prop}{w w':World}{v:Value}{l:List Tok}(h:TkRow Q w v l)(k:Stay Q w w')(t:∀b,Q b→Q' b):TkRow Q' w' v l:=by
 obtain⟨cs,h,h'⟩:=h;exact⟨cs,uo (h.on k) t,h'⟩
structure Apt(rb:Nat)(A B N:Nat→Prop)(w:World):Prop where
 rows:∀b,A b→b<w.heap.size∧b≠rb∧¬B b∧¬N b
 thrs:∀b,B b→b<w.heap.size∧b≠rb∧¬N b
 set:∀b,N b→b<w.heap.size∧b≠rb
def C3(rb:Nat)(A B:Nat→Prop):Nat→Prop:=fun b=>b=rb∨A b∨B b
structure RS(rb:Nat)(t:Tx)(r:Rv)(k:Tok)(sa:Option Addr)(sc i:Nat)(l rf th:List Tok)(A B N:Nat→Prop)(w:World):Prop where
 blk:RB rb t (yy r k sa sc) i w
 set:OwnC N w (.slice sa k.set.length sc) 1 k.set.length (uz .i64 (lf k.set) k.set.length)
 refs:TkRow A w r.v7 rf
 thrs:TkRow B w r.v8 th
 left:Left t k i l
 txt:Ints (fun b=>b<w.heap.size∧b≠rb∧¬A b∧¬B b) .u8 w r.ta t.n t.T
 cap:t.n≤r.tc
 apt:Apt rb A B N w
 tok:TokF t.n k
 kind:k.kind≠97
 big:rf.length+th.length+l.length≤1000000
 tn:t.n≤1000000
theorem vu{P Q:Nat→Prop}{w:World}{a:Option Addr}{n:Nat}{T:Nat→Int}(h:Ints P .u8 w a n T)(t:∀b,P b→Q b):Ints Q .u8 w a n T:=by
 rcases h with h | ⟨b,off,e,hq,h⟩
 ·exact .inl h
 ·exact .inr ⟨b,off,e,t b hq,h⟩
theorem xf{P:Nat→Prop}{w w':World}{a:Option Addr}{n:Nat}{T:Nat→Int}(h:Ints P .u8 w a n T)(k:Stay P w w'):Ints P .u8 w' a n T:=by
 rcases h with h | ⟨b,off,e,hq,h⟩
 ·exact .inl h
 ·exact .inr ⟨b,off,e,hq,fun i hi=>(k.cell hq).trans (h i hi)⟩
theorem RS.txq{rb:Nat}{t:Tx}{r:Rv}{k:Tok}{sa:Option Addr}{sc i:Nat}{l rf th:List Tok}{A B N:Nat→Prop}{w:World}(h:RS rb t r k sa sc i l rf th A B N w):TxQ rb w r.ta t :=
 vu h.txt (fun b q=>⟨q.1,q.2.1⟩)
theorem ulr(t:Tx)(i:Nat):(vM t i).1.kind≠97:=by
 unfold vM;split
 ·show (110:Int)≠97;omega
 ·split
  ·cases qY t i with
   |none=>show (0:Int)≠97;omega
   |some p=>show (34:Int)≠97;omega
  ·split
   ·cases qX t i with
    |none=>show (0:Int)≠97;omega
    |some p=>show (91:Int)≠97;omega
   ·split
    ·rename_i h
     intro q;have q:t.T i=97:=q;rw[q]at h;simp[kX]at h
    ·show (0:Int)≠97;omega
theorem uc1(t:Tx)(i:Nat):TokF t.n (uM t i).1∧(uM t i).1.kind≠97:=by
 unfold uM;split
 ·rename_i h
  exact⟨(umh t h).1,ulr t _⟩
 ·exact⟨⟨(fun y hy=>by cases hy),Nat.zero_le _,.inl rfl,(fun h=>absurd h (by show (0:Int)≠91;omega)),(fun h=>absurd h (by show (0:Int)≠110;omega))⟩,by show (0:Int)≠97;omega⟩
theorem RS.next{rb:Nat}{t:Tx}{r:Rv}{k:Tok}{sa:Option Addr}{sc i:Nat}{l rf th:List Tok}{A B N:Nat→Prop}{w w':World}{sa2:Option Addr}{sc2:Nat}(h:RS rb t r k sa sc i (k::l) rf th A B N w)(hk:Keep (fun b=>b=rb) w w')(h0:vh t i<t.n→(uM t i).1.kind≠0)
  (hB:RB rb t (yy r (uM t i).1 sa2 sc2) (uM t i).2 w') (hO:OwnC (New w w') w' (.slice sa2 (uM t i).1.set.length sc2) 1 (uM t i).1.set.length (uz .i64 (lf (uM t i).1.set) (uM t i).1.set.length)) :
  RS rb t r (uM t i).1 sa2 sc2 (uM t i).2 l rf th A B (New w w') w':=by
 have hs:=hk.size;have hrb:=h.blk.lt;refine⟨hB,hO,h.refs.on (fun b q=>hk.block b (h.apt.rows b q).1 (h.apt.rows b q).2.1) (fun b q=>q),h.thrs.on (fun b q=>hk.block b (h.apt.thrs b q).1 (h.apt.thrs b q).2.1) (fun b q=>q),ueB h.left h0,?_,h.cap,⟨?_,?_,?_⟩,(uc1 t i).1,(uc1 t i).2,?_,h.tn⟩
 ·exact vu (xf h.txt (fun b q=>hk.block b q.1 q.2.1)) (fun b q=>⟨by have:=q.1;omega,q.2⟩)
 ·exact fun b q=>⟨by have:=(h.apt.rows b q).1;omega,(h.apt.rows b q).2.1,(h.apt.rows b q).2.2.1,fun x=>by have:=(h.apt.rows b q).1;have:=x.1;omega⟩
 ·exact fun b q=>⟨by have:=(h.apt.thrs b q).1;omega,(h.apt.thrs b q).2.1,fun x=>by have:=(h.apt.thrs b q).1;have:=x.1;omega⟩
 ·exact fun b q=>⟨q.2,fun e=>by have:=q.1;omega⟩
 ·have:=h.big
  simp at this;omega
theorem RS.cons{rb:Nat}{t:Tx}{r:Rv}{k:Tok}{sa:Option Addr}{sc i:Nat}{l rf th:List Tok}{A B N:Nat→Prop}{w:World}(h:RS rb t r k sa sc i l rf th A B N w)(h0:k.kind≠0):∃l1,l=k::l1:=by
 rcases h.left with q | q
 ·exact⟨_,q.1⟩
 ·exact absurd (by rw[q.2.1]) h0
theorem qa{k c:Int}(h97:k≠97)(hc:c≠97)(hc2:c≠110):(kk k=c↔k=c):=by
 unfold kk;split
 ·omega
 ·exact Iff.rfl
theorem ufw{k:Int}(h97:k≠97):(kk k=97↔k=110):=by
 unfold kk;split
 ·omega
 ·omega
def uqm(rb:Nat)(t:Tx)(r:Rv)(k:Tok)(c:Int)(l rf th:List Tok)(A B:Nat→Prop)(w:World)(e:Ending)(w':World):Prop :=
 (k.kind≠c∧e=.returned (.bool false)∧w'=w)∨(k.kind=c∧Keep (fun b=>b=rb) w w'∧∃l1,l=k::l1∧((∃k' sa sc i',e=.returned (.bool true)∧RS rb t r k' sa sc i' l1 rf th A B (New w w') w')∨(∃x,l1 = [x]∧x.kind=0∧e=.panicked (flt 5 (x.at_:Nat)))))
theorem xX{rb:Nat}{t:Tx}{r:Rv}{k:Tok}{sa:Option Addr}{sc i:Nat}{l rf th:List Tok}{A B N:Nat→Prop}{w:World}(h:RS rb t r k sa sc i l rf th A B N w)(c:Int)(h0:c≠0)(hc:c≠97)(hc2:c≠110) :
  Calls Tryz.prog 70 #[.pointer (some ⟨rb,0,none⟩),.int .u8 c] w (uqm rb t r k c l rf th A B w):=by
 refine (uho rb t r k sa sc i c w h.blk h.txq h.left.le h.cap).mono ?_;rintro e W (⟨q,rfl,rfl⟩|⟨q,hk,q2⟩)
 ·exact .inl ⟨fun x=>q ((qa h.kind hc hc2).2 x),rfl,rfl⟩
 ·have hkc:=(qa h.kind hc hc2).1 q
  obtain⟨l1,rfl⟩:=h.cons (by rw[hkc];exact h0)
  refine .inr ⟨hkc,hk,l1,rfl,?_⟩;rcases q2 with⟨sa2,sc2,a0,rfl,hB,hO⟩|⟨a1,a0,rfl⟩
  ·exact .inl ⟨_,sa2,sc2,_,rfl,h.next hk a0 hB hO⟩
  ·obtain⟨x,e1,e2,e3⟩:=uaw h.left a1 a0
   exact .inr ⟨x,e1,e2,by rw[e3]⟩
def uqn(rb:Nat)(t:Tx)(r:Rv)(k:Tok)(sa:Option Addr)(sc:Nat)(c:Int)(l rf th:List Tok)(A B:Nat→Prop)(w:World)(e:Ending)(w':World):Prop :=
 Keep (fun b=>b=rb) w w'∧((k.kind≠c∧e=.panicked (flt 5 (pos t.n l:Nat)))∨(k.kind=c∧∃l1,l=k::l1∧((∃k' sa2 sc2 i',e=.returned (.agg #[.int .u8 (kk k.kind),.int .i64 (k.at_:Nat),.string (str k.nm.length (lf k.nm)),.slice sa k.set.length sc])∧RS rb t r k' sa2 sc2 i' l1 rf th A B (New w w') w')∨(∃x,l1 = [x]∧x.kind=0∧e=.panicked (flt 5 (x.at_:Nat))))))
theorem RS.pos{rb:Nat}{t:Tx}{r:Rv}{k:Tok}{sa:Option Addr}{sc i:Nat}{l rf th:List Tok}{A B N:Nat→Prop}{w:World}(h:RS rb t r k sa sc i l rf th A B N w):k.at_=pos t.n l:=by
 rcases h.left with q | q
 ·rw[q.1];rfl
 ·rw[q.1,q.2.1];rfl
theorem xY{rb:Nat}{t:Tx}{r:Rv}{k:Tok}{sa:Option Addr}{sc i:Nat}{l rf th:List Tok}{A B N:Nat→Prop}{w:World}(h:RS rb t r k sa sc i l rf th A B N w)(c:Int)(h0:c≠0){d:Int}(hc:kk k.kind=d↔k.kind=c) :
  Calls Tryz.prog 71 #[.pointer (some ⟨rb,0,none⟩),.int .u8 d] w (uqn rb t r k sa sc c l rf th A B w):=by
 refine (uhp rb t r k sa sc i d w h.blk h.txq h.left.le h.cap).mono ?_;rintro e W ⟨hk,⟨q,rfl⟩|⟨q,q2⟩⟩
 ·exact⟨hk,.inl ⟨fun x=>q (hc.2 x),by rw[h.pos]⟩⟩
 ·have hkc:=hc.1 q
  obtain⟨l1,rfl⟩:=h.cons (by rw[hkc];exact h0)
  refine⟨hk,.inr ⟨hkc,l1,rfl,?_⟩⟩;rcases q2 with⟨sa2,sc2,a0,rfl,hB,hO⟩|⟨a1,a0,rfl⟩
  ·exact .inl ⟨_,sa2,sc2,_,rfl,h.next hk a0 hB hO⟩
  ·obtain⟨x,e1,e2,e3⟩:=uaw h.left a1 a0
   exact .inr ⟨x,e1,e2,by rw[e3]⟩
def udu(R:Sum Nat (PE×List Tok))(p:Nat):Prop:=R=.inl p∨∃x y l,R=.inr (x,y::l)∧y.kind=0∧y.at_=p
structure RdOK(rb:Nat)(t:Tx)(r:Rv)(d:Nat)(l rf th:List Tok)(A B N:Nat→Prop)(w:World)(x:PE)(l1:List Tok)(v:Value)(w':World)(v7 v8:Value)(k:Tok)(sa:Option Addr)(sc i:Nat)(A' B' N' P:Nat→Prop):Prop where
 len:l1.length+d≤l.length
 st:RS rb t { r with v7:=v7,v8:=v8 } k sa sc i l1 (rf++x.refT) (th++x.thrT) A' B' N' w'
 tree:TrA w' x v P
 ra:∀b,A' b→A b∨New w w' b
 rb':∀b,B' b→B b∨New w w' b
 rn:∀b,N' b→N b∨New w w' b
 rp:∀b,P b→(N b∨New w w' b)∧¬A' b∧¬B' b∧¬N' b
def vt(R:Sum Nat (PE×List Tok))(d:Nat)(rb:Nat)(t:Tx)(r:Rv)(l rf th:List Tok)(A B N:Nat→Prop)(w:World)(e:Ending)(w':World):Prop :=
 Keep (C3 rb A B) w w'∧((∃x l1 v v7 v8 k sa sc i A' B' N' P,R=.inr (x,l1)∧e=.returned v∧RdOK rb t r d l rf th A B N w x l1 v w' v7 v8 k sa sc i A' B' N' P)∨(∃p:Nat,e=.panicked (flt 5 (p:Nat))∧udu R p))
theorem uiy{y:Tok}{l:List Tok}(h:y.kind=0):¬beg (kAt (y::l) 0):=by
 have:kAt (y::l) 0=0:=h;rw[this];unfold beg;omega
theorem ya(n:Nat):∀(f m:Nat) (acc:PE) (y:Tok) (l:List Tok),y.kind=0→udu (rd n f m acc (y::l)) y.at_
 |0,m,acc,y,l,h=>.inl (by rw[rd];rfl)
 |f+1,0,acc,y,l,h=>.inl (by
   rw[rd.eq_def];simp only[h];rfl)
 |f+1,1,acc,y,l,h=>by
  rw[rd];rcases ya n f 0 .emp y l h with q | ⟨x,z,l',q,hz,ha⟩
  ·rw[q];exact .inl rfl
  ·rw[q]
   simp only[hz];exact .inr ⟨x,z,l',rfl,hz,ha⟩
 |f+1,2,acc,y,l,h=>by
  rw[rd];simp only[h];exact ya n f 1 .emp y l h
 |f+1,3,acc,y,l,h=>by
  rw[rd,if_neg (uiy h)];exact .inr ⟨_,_,_,rfl,h,rfl⟩
 |f+1,4,acc,y,l,h=>by
  rw[rd,if_neg (uiy h)];exact .inr ⟨_,_,_,rfl,h,rfl⟩
 |f+1,5,acc,y,l,h=>by
  rw[rd];rcases ya n f 4 .emp y l h with q | ⟨x,z,l',q,hz,ha⟩
  ·rw[q];exact .inl rfl
  ·rw[q]
   rw[←ha];exact ya n f 6 x z l' hz
 |f+1,6,acc,y,l,h=>by
  rw[rd];simp only[h];exact .inr ⟨_,_,_,rfl,h,rfl⟩
 |f+1,m+7,acc,y,l,h=>.inl (by rw[rd];rfl)
end
section
open Go.RowKit
open M (OpD uj Gr)
def RdC(fn:FuncId)(m c d f:Nat):Prop:=∀(rb:Nat) (t:Tx) (r:Rv) (k:Tok) (sa:Option Addr) (sc i:Nat) (l rf th:List Tok) (A B N:Nat→Prop) (w:World),RS rb t r k sa sc i l rf th A B N w→8*l.length+c<f→Calls Tryz.prog fn #[.pointer (some ⟨rb,0,none⟩)] w (vt (rd t.n f m .emp l) d rb t r l rf th A B N w)
theorem uY{rb:Nat}{A B:Nat→Prop}{w w':World}(k:Keep (fun b=>b=rb) w w'):Keep (C3 rb A B) w w':=k.mono (fun b q=>.inl q)
theorem vd{w w1 w2:World}(h:w.heap.size≤w1.heap.size){b:Nat}(q:New w1 w2 b):New w w2 b:=⟨Nat.le_trans h q.1,q.2⟩
theorem yp{w w1 w2:World}(h:w1.heap.size≤w2.heap.size){b:Nat}(q:New w w1 b):New w w2 b:=⟨q.1,Nat.lt_of_lt_of_le q.2 h⟩
theorem RdOK.tlt{rb:Nat}{t:Tx}{r:Rv}{d:Nat}{l rf th:List Tok}{A B N:Nat→Prop}{w:World}{x:PE}{l1:List Tok}{v:Value}{w1:World}{v7 v8:Value}{k:Tok}{sa:Option Addr}{sc i:Nat}{A' B' N' P:Nat→Prop}(h:RdOK rb t r d l rf th A B N w x l1 v w1 v7 v8 k sa sc i A' B' N' P)(hN:∀b,N b→b<w.heap.size∧b≠rb)(hrb:rb<w.heap.size)(hs:w.heap.size≤w1.heap.size):∀b,P b→b<w1.heap.size∧b≠rb:=fun b q=>by
 rcases (h.rp b q).1 with q | q
 ·have:=hN b q;exact⟨by omega,this.2⟩
 ·exact⟨q.2,fun e=>by have:=q.1;omega⟩
theorem RdOK.step{rb:Nat}{t:Tx}{r:Rv}{d:Nat}{l rf th:List Tok}{A B N:Nat→Prop}{w:World}{x:PE}{l1:List Tok}{v:Value}{w1 w2:World}{v7 v8:Value}{k:Tok}{sa:Option Addr}{sc i:Nat}{A' B' N' P:Nat→Prop}(h:RdOK rb t r d l rf th A B N w x (k::l1) v w1 v7 v8 k sa sc i A' B' N' P)
  (hN:∀b,N b→b<w.heap.size∧b≠rb) (hrb:rb<w.heap.size) (hs:w.heap.size≤w1.heap.size) (hk:Keep (fun b=>b=rb) w1 w2) {k2:Tok} {sa2:Option Addr} {sc2 i2:Nat} (hS:RS rb t { r with v7:=v7,v8:=v8 } k2 sa2 sc2 i2 l1 (rf++x.refT) (th++x.thrT) A' B' (New w1 w2) w2)
  {x2:PE} {v2:Value} (hr:x2.refT=x.refT) (ht:x2.thrT=x.thrT) (hT:TrA w2 x v P→TrA w2 x2 v2 P):RdOK rb t r d l rf th A B N w x2 l1 v2 w2 v7 v8 k2 sa2 sc2 i2 A' B' (New w1 w2) P:=by
 have hlt:=h.tlt hN hrb hs;refine⟨?_,by rw[hr,ht];exact hS,hT (TrA.on x h.tree (fun b q=>hk.block b (hlt b q).1 (hlt b q).2) (fun b q=>q)),?_,?_,?_,?_⟩
 ·have:=h.len;simp at this;omega
 ·exact fun b q=>(h.ra b q).imp id (yp hk.size)
 ·exact fun b q=>(h.rb' b q).imp id (yp hk.size)
 ·exact fun b q=>.inr (vd hs q)
 ·exact fun b q=>⟨(h.rp b q).1.imp id (yp hk.size),(h.rp b q).2.1,(h.rp b q).2.2.1,fun z=>by have:=(hlt b q).1;have:=z.1;omega⟩
theorem unj{n f:Nat}{l:List Tok}{p:Nat}(h:udu (rd n f 0 .emp l) p):udu (rd n (f+1) 1 .emp l) p:=by
 rw[rd];rcases h with q | ⟨x,y,l',q,hy,ha⟩
 ·rw[q];exact .inl rfl
 ·rw[q]
  simp only[hy];exact .inr ⟨x,y,l',rfl,hy,ha⟩
theorem ugg{n f:Nat}{l:List Tok}{x:PE}{y:Tok}{r:List Tok}(h:rd n f 0 .emp l=.inr (x,y::r))(hy:y.kind=42):rd n (f+1) 1 .emp l=.inr (.star x y,r):=by
 rw[rd,h];simp only[hy,if_true]
theorem uiz{n f:Nat}{l:List Tok}{x:PE}{y:Tok}{r:List Tok}(h:rd n f 0 .emp l=.inr (x,y::r))(hy:y.kind=63):rd n (f+1) 1 .emp l=.inr (.opt x y,r):=by
 rw[rd,h];simp only[hy];rfl
theorem ult{n f:Nat}{l:List Tok}{x:PE}{r:List Tok}(h:rd n f 0 .emp l=.inr (x,r))(hy:∀y r',r=y::r'→y.kind≠42∧y.kind≠63):rd n (f+1) 1 .emp l=.inr (x,r):=by
 rw[rd,h];cases r with
 |nil=>rfl
 |cons y r' =>
  simp only;rw[if_neg (hy y r' rfl).1,if_neg (hy y r' rfl).2]
set_option maxHeartbeats 1000000 in
set_option maxRecDepth 100000 in
theorem ugh{f:Nat}(H0:RdC 124 0 1 1 f):RdC 111 1 2 1 (f+1):=by
 intro rb t r k sa sc i l rf th A B N w hS hf;have HN:Hid (∀b,N b→b<w.heap.size∧b≠rb):=hS.apt.set;have HRB:Hid (rb<w.heap.size):=hS.blk.lt;have HC:Hid (Calls Tryz.prog 124 #[.pointer (some ⟨rb,0,none⟩)] w (vt (rd t.n f 0 .emp l) 1 rb t r l rf th A B N w)):=H0 rb t r k sa sc i l rf th A B N w hS (by omega)
 clear hS hf H0;go_enter Tryz.func111,Tryz.ntmps111;go_wp2_with fail;refine HC.out.mono ?_;clear HC;rintro e W1 ⟨hk,⟨x,l1,v,v7,v8,k1,sa1,sc1,i1,A1,B1,N1,P,hR,rfl,hO⟩|⟨p,rfl,hb⟩⟩
 ·have HO:Hid (RdOK rb t r 1 l rf th A B N w x l1 v W1 v7 v8 k1 sa1 sc1 i1 A1 B1 N1 P):=hO
  have HR:Hid (rd t.n f 0 .emp l=.inr (x,l1)):=hR;have HK:Hid (Keep (C3 rb A B) w W1):=hk;obtain⟨ty,u,rfl⟩:=TrA.iface x hO.tree;clear hO hR hk;go_wp2_with fail;refine (xX HO.out.st 42 (by omega) (by omega) (by omega)).mono ?_
  rintro e W2 (⟨h42,rfl,hw⟩|⟨h42,hk2,l2,rfl,⟨k2,sa2,sc2,i2,rfl,hS2⟩|⟨y,rfl,hy,rfl⟩⟩)
  ·obtain rfl:=hw.symm
   have H42:Hid (k1.kind≠42):=h42;clear h42;go_wp2_with fail;refine (xX HO.out.st 63 (by omega) (by omega) (by omega)).mono ?_
   rintro e W2 (⟨h63,rfl,hw⟩|⟨h63,hk2,l2,rfl,⟨k2,sa2,sc2,i2,rfl,hS2⟩|⟨y,rfl,hy,rfl⟩⟩)
   ·obtain rfl:=hw.symm
    have HFI:Hid (vt (rd t.n (f+1) 1 .emp l) 1 rb t r l rf th A B N w (.returned (.iface ty u)) W1):=by
     refine⟨HK.out,.inl ⟨x,l1,_,v7,v8,k1,sa1,sc1,i1,A1,B1,N1,P,ult HR.out (fun y r' e=>?_),rfl,HO.out⟩⟩
     rcases HO.out.st.left with q | q
     ·rw[q.1]at e
      injection e with e1 e2
      rw[←e1];exact⟨H42.out,h63⟩
     ·rw[q.1]at e;cases e
    clear h63;go_wp2;go_ret;exact HFI.out
   ·have HFI:Hid (vt (rd t.n (f+1) 1 .emp l) 1 rb t r l rf th A B N w (.returned (.iface 122 (.agg #[.iface ty u,.iface 135 (.agg #[])]))) W2) :=
     ⟨HK.out.trans (uY hk2),.inl ⟨.opt x k1,l2,_,v7,v8,k2,sa2,sc2,i2,A1,B1,_,P,uiz HR.out h63,rfl,HO.out.step HN.out HRB.out HK.out.size hk2 hS2 rfl rfl (fun q=>⟨_,rfl,q⟩)⟩⟩
    clear h63 hk2 hS2;go_wp2;go_ret;exact HFI.out
   ·have HFI:Hid (vt (rd t.n (f+1) 1 .emp l) 1 rb t r l rf th A B N w (.panicked (flt 5 (y.at_:Nat))) W2) :=
     ⟨HK.out.trans (uY hk2),.inr ⟨y.at_,rfl,.inr ⟨_,y,[],uiz HR.out h63,hy,rfl⟩⟩⟩
    clear h63 hk2 hy;go_wp2;exact⟨rfl,HFI.out⟩
  ·have HFI:Hid (vt (rd t.n (f+1) 1 .emp l) 1 rb t r l rf th A B N w (.returned (.iface 124 (.agg #[.iface ty u]))) W2) :=
    ⟨HK.out.trans (uY hk2),.inl ⟨.star x k1,l2,_,v7,v8,k2,sa2,sc2,i2,A1,B1,_,P,ugg HR.out h42,rfl,HO.out.step HN.out HRB.out HK.out.size hk2 hS2 rfl rfl (fun q=>⟨_,rfl,q⟩)⟩⟩
   clear h42 hk2 hS2;go_wp2;go_ret;exact HFI.out
  ·have HFI:Hid (vt (rd t.n (f+1) 1 .emp l) 1 rb t r l rf th A B N w (.panicked (flt 5 (y.at_:Nat))) W2) :=
    ⟨HK.out.trans (uY hk2),.inr ⟨y.at_,rfl,.inr ⟨_,y,[],ugg HR.out h42,hy,rfl⟩⟩⟩
   clear h42 hk2 hy;go_wp2;exact⟨rfl,HFI.out⟩
 ·have HFI:Hid (vt (rd t.n (f+1) 1 .emp l) 1 rb t r l rf th A B N w (.panicked (flt 5 (p:Nat))) W1):=⟨hk,.inr ⟨p,rfl,unj hb⟩⟩
  clear hk hb;go_wp2;exact⟨rfl,HFI.out⟩
theorem RdOK.pre{rb:Nat}{t:Tx}{r:Rv}{d d0:Nat}{k0:Tok}{l rf th:List Tok}{A B N N0:Nat→Prop}{w0 w:World}{x:PE}{l1:List Tok}{v:Value}{w1:World}{v7 v8:Value}{k:Tok}{sa:Option Addr}{sc i:Nat}{A' B' N' P:Nat→Prop}(h:RdOK rb t r d l rf th A B N w x l1 v w1 v7 v8 k sa sc i A' B' N' P)
  (hN:∀b,N b→New w0 w b) (h0:w0.heap.size≤w.heap.size) (hs:w.heap.size≤w1.heap.size) (hd:d0≤d+1) {x2:PE} {v2:Value} (hr:x2.refT=x.refT) (ht:x2.thrT=x.thrT) (hT:TrA w1 x v P→TrA w1 x2 v2 P):RdOK rb t r d0 (k0::l) rf th A B N0 w0 x2 l1 v2 w1 v7 v8 k sa sc i A' B' N' P:=by
 refine⟨?_,by rw[hr,ht];exact h.st,hT h.tree,?_,?_,?_,?_⟩
 ·have:=h.len;simp;omega
 ·exact fun b q=>(h.ra b q).imp id (vd h0)
 ·exact fun b q=>(h.rb' b q).imp id (vd h0)
 ·exact fun b q=>.inr ((h.rn b q).elim (fun z=>yp hs (hN b z)) (vd h0))
 ·exact fun b q=>⟨.inr ((h.rp b q).1.elim (fun z=>yp hs (hN b z)) (vd h0)),(h.rp b q).2⟩
theorem unk(n:Nat):∀f,rd n f 1 .emp []=.inl n
 |0=>by rw[rd];rfl
 |1=>by rw[rd,rd];rfl
 |f+2=>by rw[rd,rd.eq_def]
theorem ulu{n f:Nat}{l:List Tok}(h:∀y r,l=y::r→y.kind≠33∧y.kind≠38):rd n (f+1) 2 .emp l=rd n f 1 .emp l:=by
 cases l with
 |nil=>rw[unk,rd.eq_def]
 |cons y r =>
  rw[rd.eq_def];simp only;rw[if_neg (h y r rfl).1,if_neg (h y r rfl).2]
theorem ufy{n f:Nat}{y:Tok}{r:List Tok}(h:y.kind=33):rd n (f+1) 2 .emp (y::r)=(match rd n f 2 .emp r with | .inl p=>.inl p | .inr (e,r')=>.inr (.not y e,r')):=by
 rw[rd.eq_def];simp only[h];rfl
theorem ufz{n f:Nat}{y:Tok}{r:List Tok}(h:y.kind=38):rd n (f+1) 2 .emp (y::r)=(match rd n f 2 .emp r with | .inl p=>.inl p | .inr (e,r')=>.inr (.amp y e,r')):=by
 rw[rd.eq_def];simp only[h];rfl
theorem uc3{R:Sum Nat (PE×List Tok)}{p:Nat}(g:PE→PE)(h:udu R p):udu (match (generalizing:=false) R with | .inl p=>.inl p | .inr (e,r')=>.inr (g e,r')) p:=by
 rcases h with q | ⟨x,y,l',q,hy,ha⟩
 ·rw[q];exact .inl rfl
 ·rw[q];exact .inr ⟨g x,y,l',rfl,hy,ha⟩
set_option maxHeartbeats 1000000 in
set_option maxRecDepth 100000 in
theorem ugi{f:Nat}(H1:RdC 111 1 2 1 f)(H2:RdC 104 2 3 1 f):RdC 104 2 3 1 (f+1):=by
 intro rb t r k sa sc i l rf th A B N w hS hf;have HS:Hid (RS rb t r k sa sc i l rf th A B N w):=hS;have HF:Hid (8*l.length+3<f+1):=hf;have G1:Hid (RdC 111 1 2 1 f):=H1;have G2:Hid (RdC 104 2 3 1 f):=H2;clear hS hf H1 H2;go_enter Tryz.func104,Tryz.ntmps104;go_wp2_with fail;refine (xX HS.out 33 (by omega) (by omega) (by omega)).mono ?_
 rintro e W1 (⟨h33,rfl,hw⟩|⟨h33,hk1,l1,rfl,⟨k1,sa1,sc1,i1,rfl,hS1⟩|⟨y,rfl,hy,rfl⟩⟩)
 ·obtain rfl:=hw.symm
  have H33:Hid (k.kind≠33):=h33;clear h33;go_wp2_with fail;refine (xX HS.out 38 (by omega) (by omega) (by omega)).mono ?_
  rintro e W1 (⟨h38,rfl,hw⟩|⟨h38,hk1,l1,rfl,⟨k1,sa1,sc1,i1,rfl,hS1⟩|⟨y,rfl,hy,rfl⟩⟩)
  ·obtain rfl:=hw.symm
   have HE:Hid (rd t.n (f+1) 2 .emp l=rd t.n f 1 .emp l):=ulu (fun y r' e=>by
    rcases HS.out.left with q | q
    ·rw[q.1]at e
     injection e with e1 e2
     rw[←e1];exact⟨H33.out,h38⟩
    ·rw[q.1]at e;cases e)
   clear h38;go_wp2_with fail;refine (G1.out rb t r k sa sc i l rf th A B N w HS.out (by have:=HF.out;omega)).mono ?_
   rintro e W2 hR;have HFI:Hid (vt (rd t.n (f+1) 2 .emp l) 1 rb t r l rf th A B N w e W2):=by rw[HE.out];exact hR
   rcases hR with⟨_,⟨x,l1,v,v7,v8,k1,sa1,sc1,i1,A1,B1,N1,P,_,rfl,hO⟩|⟨p,rfl,_⟩⟩
   ·obtain⟨ty,u,rfl⟩:=TrA.iface x hO.tree
    clear hO;go_wp2;go_ret;exact HFI.out
   ·go_wp2
    exact⟨rfl,HFI.out⟩
  ·have HK1:Hid (Keep (fun b=>b=rb) w W1):=hk1
   have H38:Hid (k.kind=38):=h38;have HC:Hid (Calls Tryz.prog 104 #[.pointer (some ⟨rb,0,none⟩)] W1 (vt (rd t.n f 2 .emp l1) 1 rb t r l1 rf th A B (New w W1) W1)):=G2.out rb t r k1 sa1 sc1 i1 l1 rf th A B (New w W1) W1 hS1 (by have:=HF.out;simp at this;omega)
   clear hk1 h38 hS1;go_wp2_with fail;refine HC.out.mono ?_;rintro e W2 ⟨hk2,⟨x,l2,v,v7,v8,k2,sa2,sc2,i2,A2,B2,N2,P,hR,rfl,hO⟩|⟨p,rfl,hb⟩⟩
   ·obtain⟨ty,u,rfl⟩:=TrA.iface x hO.tree
    have HFI:Hid (vt (rd t.n (f+1) 2 .emp (k::l1)) 1 rb t r (k::l1) rf th A B N w (.returned (.iface 125 (.agg #[.iface 125 (.agg #[.iface ty u])]))) W2) :=
     ⟨(uY HK1.out).trans hk2,.inl ⟨.amp k x,l2,_,v7,v8,k2,sa2,sc2,i2,A2,B2,N2,P,by rw[ufz H38.out,hR],rfl,hO.pre (fun b q=>q) HK1.out.size hk2.size (by omega) rfl rfl (fun q=>⟨_,rfl,q⟩)⟩⟩
    clear hk2 hO hR;go_wp2;go_ret;exact HFI.out
   ·have HFI:Hid (vt (rd t.n (f+1) 2 .emp (k::l1)) 1 rb t r (k::l1) rf th A B N w (.panicked (flt 5 (p:Nat))) W2) :=
     ⟨(uY HK1.out).trans hk2,.inr ⟨p,rfl,by rw[ufz H38.out];exact uc3 _ hb⟩⟩
    clear hk2 hb;go_wp2;exact⟨rfl,HFI.out⟩
  ·have HFI:Hid (vt (rd t.n (f+1) 2 .emp [k,y]) 1 rb t r [k,y] rf th A B N w (.panicked (flt 5 (y.at_:Nat))) W1) :=
    ⟨uY hk1,.inr ⟨y.at_,rfl,by rw[ufz h38];exact uc3 _ (ya _ _ _ _ _ _ hy)⟩⟩
   clear h38 hk1 hy;go_wp2;exact⟨rfl,HFI.out⟩
 ·have HK1:Hid (Keep (fun b=>b=rb) w W1):=hk1
  have H33:Hid (k.kind=33):=h33;have HC:Hid (Calls Tryz.prog 104 #[.pointer (some ⟨rb,0,none⟩)] W1 (vt (rd t.n f 2 .emp l1) 1 rb t r l1 rf th A B (New w W1) W1)):=G2.out rb t r k1 sa1 sc1 i1 l1 rf th A B (New w W1) W1 hS1 (by have:=HF.out;simp at this;omega)
  clear hk1 h33 hS1;go_wp2_with fail;refine HC.out.mono ?_;rintro e W2 ⟨hk2,⟨x,l2,v,v7,v8,k2,sa2,sc2,i2,A2,B2,N2,P,hR,rfl,hO⟩|⟨p,rfl,hb⟩⟩
  ·obtain⟨ty,u,rfl⟩:=TrA.iface x hO.tree
   have HFI:Hid (vt (rd t.n (f+1) 2 .emp (k::l1)) 1 rb t r (k::l1) rf th A B N w (.returned (.iface 125 (.agg #[.iface ty u]))) W2) :=
    ⟨(uY HK1.out).trans hk2,.inl ⟨.not k x,l2,_,v7,v8,k2,sa2,sc2,i2,A2,B2,N2,P,by rw[ufy H33.out,hR],rfl,hO.pre (fun b q=>q) HK1.out.size hk2.size (by omega) rfl rfl (fun q=>⟨_,rfl,q⟩)⟩⟩
   clear hk2 hO hR;go_wp2;go_ret;exact HFI.out
  ·have HFI:Hid (vt (rd t.n (f+1) 2 .emp (k::l1)) 1 rb t r (k::l1) rf th A B N w (.panicked (flt 5 (p:Nat))) W2) :=
    ⟨(uY HK1.out).trans hk2,.inr ⟨p,rfl,by rw[ufy H33.out];exact uc3 _ hb⟩⟩
   clear hk2 hb;go_wp2;exact⟨rfl,HFI.out⟩
 ·have HFI:Hid (vt (rd t.n (f+1) 2 .emp [k,y]) 1 rb t r [k,y] rf th A B N w (.panicked (flt 5 (y.at_:Nat))) W1) :=
   ⟨uY hk1,.inr ⟨y.at_,rfl,by rw[ufy h33];exact uc3 _ (ya _ _ _ _ _ _ hy)⟩⟩
  clear h33 hk1 hy;go_wp2;exact⟨rfl,HFI.out⟩
end
section
open Go.RowKit
open M (OpD uj Gr)
theorem RdOK.keep{rb:Nat}{t:Tx}{r:Rv}{d:Nat}{l rf th:List Tok}{A B N:Nat→Prop}{w:World}{x:PE}{l1:List Tok}{v:Value}{w1 w2:World}{v7 v8:Value}{k:Tok}{sa:Option Addr}{sc i:Nat}{A' B' N' P:Nat→Prop}(h:RdOK rb t r d l rf th A B N w x l1 v w1 v7 v8 k sa sc i A' B' N' P)
  (h1:Keep (C3 rb A B) w w1) (h2:Keep (C3 rb A' B') w1 w2):Keep (C3 rb A B) w w2:=by
 refine⟨h2.os.trans h1.os,h2.tape.trans h1.tape,h2.output.trans h1.output,Nat.le_trans h1.size h2.size,fun b hb hc=>?_⟩
 have hs:=h1.size;refine (h2.block b (by omega) ?_).trans (h1.block b hb hc)
 rintro (q | q | q)
 ·exact hc (.inl q)
 ·rcases h.ra b q with q | q
  ·exact hc (.inr (.inl q))
  ·have:=q.1;omega
 ·rcases h.rb' b q with q | q
  ·exact hc (.inr (.inr q))
  ·have:=q.1;omega
theorem RdOK.two{rb:Nat}{t:Tx}{r:Rv}{d d2 d3:Nat}{l rf th:List Tok}{A B N:Nat→Prop}{w:World}{x:PE}{l1:List Tok}{v:Value}{w1 w2:World}{v7 v8:Value}{k:Tok}{sa:Option Addr}{sc i:Nat}{A1 B1 N1 P1:Nat→Prop}(h:RdOK rb t r d l rf th A B N w x l1 v w1 v7 v8 k sa sc i A1 B1 N1 P1)
  (hN:∀b,N b→b<w.heap.size∧b≠rb) (hrb:rb<w.heap.size) (hs:w.heap.size≤w1.heap.size) (hk:Keep (C3 rb A1 B1) w1 w2)
  {y:PE} {l2:List Tok} {v2:Value} {u7 u8:Value} {k2:Tok} {sa2:Option Addr} {sc2 i2:Nat} {A2 B2 N2 P2:Nat→Prop} (h2:RdOK rb t { r with v7:=v7,v8:=v8 } d2 l1 (rf++x.refT) (th++x.thrT) A1 B1 N1 w1 y l2 v2 w2 u7 u8 k2 sa2 sc2 i2 A2 B2 N2 P2)
  {z:PE} {ty:TypeId} (hd:d3≤d+d2) (hr:z.refT=x.refT++y.refT) (ht:z.thrT=x.thrT++y.thrT) (hT:∀vz P,unl (TrA w2 x) (TrA w2 y) ty vz P→TrA w2 z vz P) :
  RdOK rb t r d3 l rf th A B N w z l2 (.iface ty (.agg #[v,v2])) w2 u7 u8 k2 sa2 sc2 i2 A2 B2 N2 (fun b=>P1 b∨P2 b):=by
 have hlt:=h.tlt hN hrb hs;have hs2:=hk.size;have hnC:∀b,P1 b→¬C3 rb A1 B1 b:=fun b q=>by
  rintro (z | z | z)
  ·exact (hlt b q).2 z
  ·exact (h.rp b q).2.1 z
  ·exact (h.rp b q).2.2.1 z
 refine⟨by have:=h.len;have:=h2.len;omega,by rw[hr,ht,←List.append_assoc,←List.append_assoc];exact h2.st,hT _ _ ⟨v,v2,P1,P2,rfl,fun b q=>.inl q,fun b q=>.inr q,?_,TrA.on x h.tree (fun b q=>hk.block b (hlt b q).1 (hnC b q)) (fun b q=>q),h2.tree⟩,?_,?_,?_,?_⟩
 ·intro b q q2
  rcases (h2.rp b q2).1 with z | z
  ·exact (h.rp b q).2.2.2 z
  ·have:=(hlt b q).1;have:=z.1;omega
 ·exact fun b q=>(h2.ra b q).elim (fun z=>(h.ra b z).imp id (yp hs2)) (fun z=>.inr (vd hs z))
 ·exact fun b q=>(h2.rb' b q).elim (fun z=>(h.rb' b z).imp id (yp hs2)) (fun z=>.inr (vd hs z))
 ·exact fun b q=>(h2.rn b q).elim (fun z=>(h.rn b z).imp id (yp hs2)) (fun z=>.inr (vd hs z))
 ·rintro b (q | q)
  ·refine⟨(h.rp b q).1.imp id (yp hs2),fun z=>?_,fun z=>?_,fun z=>?_⟩
   ·rcases h2.ra b z with z | z
    ·exact (h.rp b q).2.1 z
    ·have:=(hlt b q).1;have:=z.1;omega
   ·rcases h2.rb' b z with z | z
    ·exact (h.rp b q).2.2.1 z
    ·have:=(hlt b q).1;have:=z.1;omega
   ·rcases h2.rn b z with z | z
    ·exact (h.rp b q).2.2.2 z
    ·have:=(hlt b q).1;have:=z.1;omega
  ·exact⟨(h2.rp b q).1.elim (fun z=>(h.rn b z).imp id (yp hs2)) (fun z=>.inr (vd hs z)),(h2.rp b q).2⟩
theorem RdOK.less{rb:Nat}{t:Tx}{r:Rv}{d d2:Nat}{l rf th:List Tok}{A B N:Nat→Prop}{w:World}{x:PE}{l1:List Tok}{v:Value}{w1:World}{v7 v8:Value}{k:Tok}{sa:Option Addr}{sc i:Nat}{A' B' N' P:Nat→Prop}(h:RdOK rb t r d l rf th A B N w x l1 v w1 v7 v8 k sa sc i A' B' N' P)(hd:d2≤d):RdOK rb t r d2 l rf th A B N w x l1 v w1 v7 v8 k sa sc i A' B' N' P :=
 ⟨by have:=h.len;omega,h.st,h.tree,h.ra,h.rb',h.rn,h.rp⟩
theorem RdOK.none{rb:Nat}{t:Tx}{r:Rv}{k:Tok}{sa:Option Addr}{sc i:Nat}{l rf th:List Tok}{A B N:Nat→Prop}{w:World}(h:RS rb t r k sa sc i l rf th A B N w):RdOK rb t r 0 l rf th A B N w .emp l ues w r.v7 r.v8 k sa sc i A B N (fun _=>False) :=
 ⟨Nat.le_refl _,by rw[show PE.refT .emp = [] from rfl,show PE.thrT .emp = [] from rfl,List.append_nil,List.append_nil];exact h,rfl,fun b q=>.inl q,fun b q=>.inl q,fun b q=>.inl q,fun b q=>q.elim⟩
theorem RS.kAt{rb:Nat}{t:Tx}{r:Rv}{k:Tok}{sa:Option Addr}{sc i:Nat}{l rf th:List Tok}{A B N:Nat→Prop}{w:World}(h:RS rb t r k sa sc i l rf th A B N w):kAt l 0=k.kind:=by
 rcases h.left with q | q
 ·rw[q.1];rfl
 ·rw[q.1,q.2.1];rfl
theorem uiA{k:Int}(h:k≠97):(ufC (kk k)=true↔beg k):=by
 unfold ufC beg kk;rw[decide_eq_true_iff];split
 ·omega
 ·omega
def lenM(t:Tx)(rb:Nat)(w:World):Nat:=match w.cell? ⟨rb,2,none⟩ with | some (.int _ x)=>if x=0 then 0 else (udg t (jr rb w)).length+1 | _=>0
theorem RS.lenM{rb:Nat}{t:Tx}{r:Rv}{k:Tok}{sa:Option Addr}{sc i:Nat}{l rf th:List Tok}{A B N:Nat→Prop}{w:World}(h:RS rb t r k sa sc i l rf th A B N w):lenM t rb w=l.length:=by
 have c2:w.cell? ⟨rb,2,none⟩=some (.int .u8 (kk k.kind)):=ud h.blk rfl;unfold Go.Proofs.YthicmmhmmfhncaaGreat.lenM;rw[c2,h.blk.at_];simp only;have hk:(kk k.kind=0↔k.kind=0):=qa h.kind (by omega) (by omega)
 rcases h.left with q | q
 ·rw[if_neg (fun z=>q.2.1 (hk.1 z)),q.1]
  rfl
 ·rw[if_pos (hk.2 (by rw[q.2.1])),q.1]
  rfl
theorem ulx{n f:Nat}{l:List Tok}(h:¬beg (kAt l 0)):rd n (f+1) 4 .emp l=.inr (.emp,l):=by
 rw[rd,if_neg h]
theorem ugk{n f:Nat}{l:List Tok}(h:beg (kAt l 0)):rd n (f+1) 4 .emp l=(match rd n f 2 .emp l with | .inl p=>.inl p | .inr (e,r)=>rd n f 3 e r):=by
 rw[rd,if_pos h];rfl
theorem uly{n f:Nat}{acc:PE}{l:List Tok}(h:¬beg (kAt l 0)):rd n (f+1) 3 acc l=.inr (acc,l):=by
 rw[rd,if_neg h]
theorem ugl{n f:Nat}{acc:PE}{l:List Tok}(h:beg (kAt l 0)):rd n (f+1) 3 acc l=(match rd n f 2 .emp l with | .inl p=>.inl p | .inr (e,r)=>rd n f 3 (.seq acc e) r):=by
 rw[rd,if_pos h];rfl
theorem qj{n f m:Nat}{R:Sum Nat (PE×List Tok)}{p:Nat}(g:PE→PE)(h:udu R p):udu (match (generalizing:=false) R with | .inl p=>.inl p | .inr (e,r)=>rd n f m (g e) r) p:=by
 rcases h with q | ⟨x,y,l',q,hy,ha⟩
 ·rw[q];exact .inl rfl
 ·rw[q,←ha];exact ya n f m (g x) y l' hy
def sqI(F:Nat)(rb:Nat)(t:Tx)(r:Rv)(l rf th:List Tok)(A B N:Nat→Prop)(w:World)(v:Value)(wr:World):Prop :=
 Keep (C3 rb A B) w wr∧∃f acc l1 v7 v8 k sa sc i A' B' N' P,f+1≤F∧rd t.n (F+1) 4 .emp l=rd t.n (f+1) 3 acc l1∧8*l1.length+4<f+1∧RdOK rb t r 1 l rf th A B N w acc l1 v wr v7 v8 k sa sc i A' B' N' P
set_option maxHeartbeats 1000000 in
set_option maxRecDepth 100000 in
theorem ulz{F:Nat}(H2:∀g,g≤F→RdC 104 2 3 1 g):RdC 91 4 4 0 (F+1):=by
 intro rb t r k sa sc i l rf th A B N w hS hf;have HS:Hid (RS rb t r k sa sc i l rf th A B N w):=hS;have HF:Hid (8*l.length+4<F+1):=hf;have G2:Hid (∀g,g≤F→RdC 104 2 3 1 g):=H2;have c2:w.cell? ⟨rb,2,none⟩=some (.int .u8 (kk k.kind)):=ud hS.blk rfl;have HB:Hid (ufC (kk k.kind)=true↔beg (kAt l 0)):=by rw[hS.kAt];exact uiA hS.kind
 clear hS hf H2;generalize kk k.kind=c at c2 HB;by_cases hb:ufC c=true
 ·have hbe:=HB.out.1 hb
  have HBE:Hid (beg (kAt l 0)):=hbe;have HBG:Hid (Calls Tryz.prog 103 #[.int .u8 c] w fun e w'=>e=.returned (.bool true)∧w'=w):=(yE c w).mono (fun e w' q=>by rw[hb]at q;exact q)
  clear hbe hb;go_enter Tryz.func91,Tryz.ntmps91;go_wp2_with fail;refine HBG.out.mono ?_;rintro e W0 ⟨rfl,hw⟩;obtain rfl:=hw.symm;clear HBG;go_wp2_with fail;refine (G2.out F (Nat.le_refl _) rb t r k sa sc i l rf th A B N w HS.out (by have:=HF.out;omega)).mono ?_
  rintro e W1 ⟨hk1,⟨x,l1,v,v7,v8,k1,sa1,sc1,i1,A1,B1,N1,P,hR,rfl,hO⟩|⟨p,rfl,hbad⟩⟩
  ·have HI:Hid (sqI F rb t r l rf th A B N w v W1):=by
    have h1:=HF.out;have h2:=hO.len;obtain⟨f,rfl⟩:∃f,F=f+1:=⟨F-1,by omega⟩
    exact⟨hk1,f,x,l1,v7,v8,k1,sa1,sc1,i1,A1,B1,N1,P,Nat.le_refl _,by rw[ugk HBE.out,hR],by omega,hO⟩
   clear hR hO hk1 c2;go_wp2;go_loopw [3] (sqI F rb t r l rf th A B N w) (fun _ wr=>lenM t rb wr)
   case atStart=>exact HI.out
   case round =>
    obtain⟨hk,f,acc,l1,v7,v8,k1,sa1,sc1,i1,A1,B1,N1,P,hf,hE,hfl,hO⟩:=hrel;obtain⟨ty3,u3,rfl⟩:=TrA.iface acc hO.tree;have HO:Hid (RdOK rb t r 1 l rf th A B N w acc l1 (.iface ty3 u3) wr v7 v8 k1 sa1 sc1 i1 A1 B1 N1 P):=hO;have HE:Hid (rd t.n (F+1) 4 .emp l=rd t.n (f+1) 3 acc l1):=hE;have HFL:Hid (8*l1.length+4<f+1∧f+1≤F):=⟨hfl,hf⟩;have HK:Hid (Keep (C3 rb A B) w wr):=hk;have HLM:Hid (lenM t rb wr=l1.length):=hO.st.lenM;have c2:wr.cell? ⟨rb,2,none⟩=some (.int .u8 (kk k1.kind)):=ud hO.st.blk rfl;have HB1:Hid (ufC (kk k1.kind)=true↔beg (kAt l1 0)):=by rw[hO.st.kAt];exact uiA hO.st.kind
    clear hO hE hfl hf hk HI HB HBE;generalize kk k1.kind=c1 at c2 HB1;by_cases hb:ufC c1=true
    ·have HBE:Hid (beg (kAt l1 0)):=HB1.out.1 hb
     have HBG:Hid (Calls Tryz.prog 103 #[.int .u8 c1] wr fun e w'=>e=.returned (.bool true)∧w'=wr):=(yE c1 wr).mono (fun e w' q=>by rw[hb]at q;exact q)
     clear hb;go_wp2_with fail;refine HBG.out.mono ?_;rintro e W0 ⟨rfl,hw⟩;obtain rfl:=hw.symm;clear HBG;go_wp2_with fail;refine (G2.out f (by have:=HFL.out;omega) rb t { r with v7:=v7,v8:=v8 } k1 sa1 sc1 i1 l1 (rf++acc.refT) (th++acc.thrT) A1 B1 N1 wr HO.out.st (by have:=HFL.out;omega)).mono ?_
     rintro e W2 ⟨hk2,⟨y,l2,v2,u7,u8,k2,sa2,sc2,i2,A2,B2,N2,P2,hR,rfl,hO2⟩|⟨p,rfl,hbad⟩⟩
     ·obtain⟨ty2,u2,rfl⟩:=TrA.iface y hO2.tree
      have HI2:Hid (sqI F rb t r l rf th A B N w (.iface 121 (.agg #[.iface ty3 u3,.iface ty2 u2])) W2):=by
       have h1:=HFL.out;have h2:=hO2.len;obtain⟨g,rfl⟩:∃g,f=g+1:=⟨f-1,by omega⟩
       exact⟨HO.out.keep HK.out hk2,g,.seq acc y,l2,u7,u8,k2,sa2,sc2,i2,A2,B2,N2,_,by omega,by rw[HE.out,ugl HBE.out,hR],by omega,HO.out.two HS.out.apt.set HS.out.blk.lt HK.out.size hk2 hO2 (by omega) rfl rfl (fun vz P q=>q)⟩
      have HM:Hid (lenM t rb W2<lenM t rb wr):=by
       rw[HLM.out,hO2.st.lenM];have h3:l2.length<l1.length:=by
        have:=hO2.len;omega
       exact h3
      clear hR hO2 hk2 c2;go_wp2;go_roundw;all_goals first
       |exact HI2.out
       |exact HM.out
     ·have HFI:Hid (vt (rd t.n (F+1) 4 .emp l) 0 rb t r l rf th A B N w (.panicked (flt 5 (p:Nat))) W2) :=
       ⟨HO.out.keep HK.out hk2,.inr ⟨p,rfl,by rw[HE.out,ugl HBE.out];exact qj _ hbad⟩⟩
      clear hk2 hbad;go_wp2;exact⟨rfl,HFI.out⟩
    ·have HBE:Hid (¬beg (kAt l1 0)):=fun q=>hb (HB1.out.2 q)
     have HBG:Hid (Calls Tryz.prog 103 #[.int .u8 c1] wr fun e w'=>e=.returned (.bool false)∧w'=wr):=(yE c1 wr).mono (fun e w' q=>by rw[(Bool.not_eq_true _).mp hb]at q;exact q)
     have HFI:Hid (vt (rd t.n (F+1) 4 .emp l) 0 rb t r l rf th A B N w (.returned (.iface ty3 u3)) wr) :=
      ⟨HK.out,.inl ⟨acc,l1,_,v7,v8,k1,sa1,sc1,i1,A1,B1,N1,P,by rw[HE.out,uly HBE.out],rfl,HO.out.less (by omega)⟩⟩
     clear hb;go_wp2_with fail;refine HBG.out.mono ?_;rintro e W0 ⟨rfl,hw⟩;obtain rfl:=hw.symm;clear HBG;go_wp2;go_ret;exact HFI.out
  ·have HFI:Hid (vt (rd t.n (F+1) 4 .emp l) 0 rb t r l rf th A B N w (.panicked (flt 5 (p:Nat))) W1) :=
    ⟨hk1,.inr ⟨p,rfl,by rw[ugk HBE.out];exact qj (fun e=>e) hbad⟩⟩
   clear hk1 hbad;go_wp2;exact⟨rfl,HFI.out⟩
 ·have HBE:Hid (¬beg (kAt l 0)):=fun q=>hb (HB.out.2 q)
  have HBG:Hid (Calls Tryz.prog 103 #[.int .u8 c] w fun e w'=>e=.returned (.bool false)∧w'=w):=(yE c w).mono (fun e w' q=>by rw[(Bool.not_eq_true _).mp hb]at q;exact q)
  have HFI:Hid (vt (rd t.n (F+1) 4 .emp l) 0 rb t r l rf th A B N w (.returned ues) w) :=
   ⟨Keep.refl _ _,.inl ⟨.emp,l,_,r.v7,r.v8,k,sa,sc,i,A,B,N,_,ulx HBE.out,rfl,RdOK.none HS.out⟩⟩
  clear hb;go_enter Tryz.func91,Tryz.ntmps91;go_wp2_with fail;refine HBG.out.mono ?_;rintro e W0 ⟨rfl,hw⟩;obtain rfl:=hw.symm;clear HBG;go_wp2;go_ret;exact HFI.out
end
end Go.Proofs.YthicmmhmmfhncaaGreat
