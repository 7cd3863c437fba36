import Derived.Test.YthicmmhmmfhncaaGreatT01
import Derived.Test.YthicmmhmmfhncaaGreatT03
import Derived.Deep.RegionWith
import Derived.Test.YthicmmhmmfhncaaGreatT06
import Derived.Test.YthicmmhmmfhncaaGreatT04
import Derived.Deep.Cut
import Derived.Deep.CutRange
import Derived.Laws.ResultCell
set_option linter.unusedVariables false
set_option linter.unusedSimpArgs false
namespace Go.Proofs.YthicmmhmmfhncaaGreat
section
open Go.RowKit
structure Tx where
 n:Nat
 T:Nat→Int
 byt:∀i,0≤T i∧T i≤255
 le:n≤1048576
def ucc(c:Int):Option Nat:=if 48≤c∧c≤57 then some (c-48).toNat else if 97≤c∧c≤102 then some (c-87).toNat else if 65≤c∧c≤70 then some (c-55).toNat else none
def qf(c:Int):Int:=match ucc c with | some x=>x | none=>-1
def ucd(c:Int):Prop:=c=92∨c=34∨c=91∨c=93∨c=45∨c=94
instance (c:Int):Decidable (ucd c):=by unfold ucd;infer_instance
def esc(t:Tx)(i:Nat):Int×Nat :=
 if t.n≤i+1∨t.T i≠92 then (0,0)
 else if t.T (i+1)=110 then (10,2)
 else if t.T (i+1)=116 then (9,2)
 else if t.T (i+1)=114 then (13,2)
 else if ucd (t.T (i+1)) then (t.T (i+1),2)
 else if t.T (i+1)=120∧i+3<t.n∧0≤qf (t.T (i+2))∧0≤qf (t.T (i+3)) then (qf (t.T (i+2))*16+qf (t.T (i+3)),4)
 else (0,0)
def chr(t:Tx)(i:Nat)(cls:Bool):Int×Nat :=
 if t.n≤i∨t.T i=10 then (0,0)
 else if t.T i=92 then esc t i
 else if cls=true∧(t.T i=93∨t.T i=45∨t.T i=94) then (0,0)
 else if cls=false∧t.T i=34 then (0,0)
 else (t.T i,1)
def eol(t:Tx):Nat→Nat→Nat
 |0,i=>i
 |f+1,i=>if i<t.n∧t.T i≠10 then eol t f (i+1) else i
def wsP(c:Int):Prop:=c=32∨c=9∨c=13∨c=10
instance (c:Int):Decidable (wsP c):=by unfold wsP;infer_instance
def skp(t:Tx):Nat→Nat→Nat
 |0,i=>i
 |f+1,i=>if i<t.n then (if wsP (t.T i) then skp t f (i+1) else if t.T i=35 then skp t f (eol t (t.n-i) i) else i) else i
def vh(t:Tx)(i:Nat):Nat:=skp t (t.n-i) i
theorem uh1(t:Tx):∀f i,i≤eol t f i
 |0,i=>Nat.le_refl _
 |f+1,i=>by
  rw[eol];split
  ·exact Nat.le_trans (Nat.le_succ i) (uh1 t f (i+1))
  ·exact Nat.le_refl _
theorem uh2(t:Tx):∀f i,i≤t.n→eol t f i≤t.n
 |0,i,h=>h
 |f+1,i,h=>by
  rw[eol];split
  ·exact uh2 t f (i+1) (by omega)
  ·exact h
theorem ugW(t:Tx):∀f g i,t.n-i≤f→t.n-i≤g→eol t f i=eol t g i
 |f,g,i,h,k=>by
  by_cases hi:i<t.n
  ·obtain⟨f,rfl⟩:∃q,f=q+1:=⟨f-1,by omega⟩
   obtain⟨g,rfl⟩:∃q,g=q+1:=⟨g-1,by omega⟩
   rw[eol,eol,ugW t f g (i+1) (by omega) (by omega)]
  ·cases f<;>cases g<;>simp[eol,hi]
def xU(t:Tx)(i:Nat):Nat:=eol t (t.n-i) i
theorem qK(t:Tx)(i:Nat):xU t i=if i<t.n∧t.T i≠10 then xU t (i+1) else i:=by
 unfold xU;by_cases hi:i<t.n
 ·rw[ugW t (t.n-i) ((t.n-(i+1))+1) i (by omega) (by omega),eol]
 ·rw[show t.n-i=0 by omega,if_neg (fun q=>hi q.1),eol]
theorem ufP(t:Tx){i:Nat}(h:i<t.n)(h35:t.T i=35):i<xU t i∧xU t i≤t.n:=by
 rw[qK,if_pos ⟨h,by omega⟩]
 exact⟨uh1 t _ (i+1),uh2 t _ (i+1) (by omega)⟩
theorem uaQ(t:Tx):∀f g i,t.n-i≤f→t.n-i≤g→skp t f i=skp t g i
 |f,g,i,h,k=>by
  by_cases hi:i<t.n
  ·obtain⟨f,rfl⟩:∃q,f=q+1:=⟨f-1,by omega⟩
   obtain⟨g,rfl⟩:∃q,g=q+1:=⟨g-1,by omega⟩
   rw[skp,skp,if_pos hi,if_pos hi,uaQ t f g (i+1) (by omega) (by omega)]
   by_cases h35:t.T i=35
   ·have:=ufP t hi h35
    rw[uaQ t f g (eol t (t.n-i) i) (by unfold xU at this;omega) (by unfold xU at this;omega)]
   ·simp[h35]
  ·cases f<;>cases g<;>simp[skp,hi]
theorem qL(t:Tx)(i:Nat):vh t i=if i<t.n then (if wsP (t.T i) then vh t (i+1) else if t.T i=35 then vh t (xU t i) else i) else i:=by
 unfold vh;by_cases hi:i<t.n
 ·rw[if_pos hi,uaQ t (t.n-i) ((t.n-(i+1))+1) i (by omega) (by omega),skp,if_pos hi]
  by_cases h35:t.T i=35
  ·have:=ufP t hi h35
   rw[show eol t (t.n-i) i=xU t i from rfl,uaQ t (t.n-(i+1)) (t.n-xU t i) (xU t i) (by omega) (by omega)]
  ·simp[h35]
 ·rw[if_neg hi,show t.n-i=0 by omega,skp]
end
section
open Go.RowKit
def ucE(k:Nat):Int:=if k<10 then 48+k else 87+k
def uiT(k:Nat):Int:=if k<10 then 48+k else 55+k
theorem uiU{c:Int}{k:Nat}(h:ucc c=some k):k<16∧(c=ucE k∨c=uiT k):=by
 unfold ucc at h;unfold ucE uiT;by_cases h1:48≤c∧c≤57
 ·rw[if_pos h1]at h
  injection h with h
  subst h;refine⟨by omega,.inl ?_⟩
  rw[if_pos (by omega)];omega
 rw[if_neg h1]at h;by_cases h2:97≤c∧c≤102
 ·rw[if_pos h2]at h
  injection h with h
  subst h;refine⟨by omega,.inl ?_⟩
  rw[if_neg (by omega)];omega
 rw[if_neg h2]at h;by_cases h3:65≤c∧c≤70
 ·rw[if_pos h3]at h
  injection h with h
  subst h;refine⟨by omega,.inr ?_⟩
  rw[if_neg (by omega)];omega
 rw[if_neg h3]at h;cases h
theorem qJ{c:Int}{k:Nat}(h:ucc c=some k):qf c=k:=by unfold qf;rw[h]
theorem ue6{c:Int}(h:ucc c=none):qf c = -1:=by unfold qf;rw[h]
theorem uiV(c:Int) : -1≤qf c∧qf c≤15:=by
 cases h:ucc c with
 |none=>rw[ue6 h];omega
 |some k=>rw[qJ h];have:=(uiU h).1;omega
end
section
open Go.RowKit
theorem ume{x:Int}(h:0≤x)(h':x≤4000000):IntKind.i64.wrap x=x:=by
 unfold IntKind.wrap;have e1:x%(2 ^ IntKind.i64.bits:Int)=x:=Int.emod_eq_of_lt h (Int.lt_of_le_of_lt h' (by decide))
 have e2:¬(x ≥ (2 ^ (IntKind.i64.bits-1):Int)):=fun q=>absurd (Int.le_trans q h') (by decide)
 simp only[e1,e2,decide_false,Bool.and_false,if_neg,Bool.false_eq_true,not_false_iff]
end
section
open Go.RowKit
open M (OpD uj Gr)
theorem uh3(k:IntKind)(l:List Int)(x:Int):uz k (lf l) l.length++[.int k x]=uz k (lf (l++[x])) (l.length+1):=by
 unfold uz;rw[List.range_succ,List.map_append]
 congr 1
 ·refine List.map_congr_left fun i hi=>?_
  have:=List.mem_range.1 hi;simp[lf,List.getElem?_append_left this]
 ·simp[lf]
theorem uph(wr:World)(x:Int):Src Tryz.prog 1 22 (.slice (some ⟨wr.heap.size,0,none⟩) 1 1) 1 [.int .u8 x] (wr.alloc (.cells #[.int .u8 x] 5)) :=
 yH Tryz.underlying22 rfl (fun j u hu=>by
  have hb:=World.alloc_heap_new wr (.cells #[.int .u8 x] 5);simp only[World.cell?,hb];rw[←hu];simp) (fun u hu=>by obtain rfl:=List.mem_singleton.1 hu;rfl)
theorem uE(w:World)(m:Nat):Keep (fun _=>False) w (w.drewN m):=Keep.of_below (below_drewN (Below.refl w.heap.size w) m) (fun k hk _=>hk)
theorem unN(t:Tx)(i:Nat)(hi:i≤t.n):0≤(esc t i).1∧(esc t i).1≤255∧i+(esc t i).2≤t.n:=by
 have b1:=t.byt (i+1);have z2:=uiV (t.T (i+2));have z3:=uiV (t.T (i+3));unfold esc;split
 ·simp;omega
 split
 ·simp;omega
 split
 ·simp;omega
 split
 ·simp;omega
 split
 ·simp;omega
 split
 ·rename_i h;obtain⟨_,h1,h2,h3⟩:=h;simp;omega
 ·simp;omega
theorem uaS(t:Tx)(i:Nat)(c:Bool)(hi:i≤t.n):0≤(chr t i c).1∧(chr t i c).1≤255∧i+(chr t i c).2≤t.n:=by
 have b1:=t.byt i;have h2:=unN t i hi;unfold chr;split
 ·simp;omega
 split
 ·exact h2
 split
 ·simp;omega
 split
 ·simp;omega
 ·simp;omega
def qg(t:Tx):Nat→Nat→List Int→Option (List Int×Nat)
 |0,_,_=>none
 |f+1,j,z=>if j<t.n∧t.T j=34 then some (z,j+1) else if (chr t j false).2=0 then none else qg t f (j+(chr t j false).2) (z++[(chr t j false).1])
def qY(t:Tx)(i:Nat):Option (List Int×Nat):=qg t (t.n-i) (i+1) []
end
section
open Go.RowKit
open M (OpD uj Gr)
def yn(m:Nat→Bool)(lo k:Nat):Nat→Bool:=fun b=>m b||(decide (lo≤b)&&decide (b<k))
theorem ugR(m:Nat→Bool)(lo:Nat):yn m lo lo=m:=by
 funext b
 unfold yn;by_cases h:lo≤b
 ·simp[h,Nat.not_lt.2 h]
 ·simp[h]
def yJ(t:Tx):Nat→Nat→(Nat→Bool)→Option ((Nat→Bool)×Nat)
 |0,_,_=>none
 |f+1,j,m =>
  if j<t.n∧t.T j=93 then some (m,j)
  else if (chr t j true).2=0 then none
  else if j+(chr t j true).2<t.n∧t.T (j+(chr t j true).2)=45 then
   (if (chr t (j+(chr t j true).2+1) true).2=0∨(chr t (j+(chr t j true).2+1) true).1<(chr t j true).1 then none
   else yJ t f (j+(chr t j true).2+1+(chr t (j+(chr t j true).2+1) true).2) (yn m (chr t j true).1.toNat ((chr t (j+(chr t j true).2+1) true).1.toNat+1)))
  else yJ t f (j+(chr t j true).2) (yn m (chr t j true).1.toNat ((chr t j true).1.toNat+1))
def ugS(t:Tx)(i:Nat):Bool:=decide (i+1<t.n∧t.T (i+1)=94)
def uao(t:Tx)(i:Nat):Nat:=if ugS t i=true then i+2 else i+1
def umc(neg:Bool):Option ((Nat→Bool)×Nat)→Option (List Int×Nat)
 |none=>none
 |some (m,j)=>some (rg (fun b=>m b != neg) 256,j+1)
def qX(t:Tx)(i:Nat):Option (List Int×Nat):=umc (ugS t i) (yJ t (t.n+2-i) (uao t i) (fun _=>false))
theorem umd(l:List Int):je l=uz .i64 (lf l) l.length:=by
 apply List.ext_getElem?
 intro i;unfold je uz lf;by_cases h:i<l.length
 ·simp[h]
 ·simp[h,Nat.not_lt.1 h]
theorem ue5(m:Nat→Bool){lo k:Nat}(h:lo≤k):(fun b=>if b=k then true else yn m lo k b)=yn m lo (k+1):=by
 funext b
 unfold yn;by_cases e:b=k
 ·subst e;simp[h]
 ·have:(b<k)=(b<k+1):=by simp;omega
  simp[e,this]
end
section
open Go.RowKit
open M (OpD uj Gr)
theorem ud{w:World}{b j:Nat}{c:Array Value}{t:TypeId}{v:Value}(h:w.heap[b]? = some (.cells c t))(hv:c[j]? = some v):w.cell? ⟨b,j,none⟩=some v:=by
 simp[World.cell?,h,hv]
theorem ut{w:World}{b j:Nat}{c:Array Value}{t:TypeId}(h:w.heap[b]? = some (.cells c t)):w.frozen? ⟨b,j,none⟩=false:=by
 simp[World.frozen?,h]
theorem yX(w:World)(o:Obj)(b:Nat)(hb:b=w.heap.size):(w.alloc o).heap[b]? = some o:=by subst hb;exact World.alloc_heap_new w o
theorem ufQ{w:World}{b:Nat}{c:Obj}(h:w.heap[b]? = some c)(o:Obj):(w.alloc o).heap[b]? = some c:=by
 rw[Below.heap_alloc w o b (Array.getElem?_eq_some_iff.1 h).1];exact h
structure Tok where
 kind:Int
 at_:Nat
 nm:List Int
 set:List Int
def yv(c:Int):Prop:=M.Letter c∨M.Digit c
instance (c:Int):Decidable (M.Letter c):=by unfold M.Letter;infer_instance
instance (c:Int):Decidable (M.Digit c):=by unfold M.Digit;infer_instance
instance (c:Int):Decidable (yv c):=by unfold yv;infer_instance
def vj(t:Tx):Nat→Nat→List Int→List Int×Nat
 |0,j,z=>(z,j)
 |f+1,j,z=>if j<t.n∧yv (t.T j) then vj t f (j+1) (z++[t.T j]) else (z,j)
def kX:List Int:=[61,59,47,33,38,42,63,40,41,46,94]
def vM(t:Tx)(i:Nat):Tok×Nat :=
 if M.Letter (t.T i) then (⟨110,i,(vj t (t.n-i) i []).1,[]⟩,(vj t (t.n-i) i []).2)
 else if t.T i=34 then (match qY t i with | none=>(⟨0,i,[],[]⟩,i) | some (z,j)=>(⟨34,i,z,[]⟩,j))
 else if t.T i=91 then (match qX t i with | none=>(⟨0,i,[],[]⟩,i) | some (z,j)=>(⟨91,i,[],z⟩,j))
 else if t.T i∈kX then (⟨t.T i,i,[],[]⟩,i+1)
 else (⟨0,i,[],[]⟩,i+1)
theorem xp{w:World}{b j:Nat}{c:Array Value}{t:TypeId}(v:Value)(h:w.heap[b]? = some (.cells c t)):(w.setCell ⟨b,j,none⟩ v).heap[b]? = some (.cells (c.setIfInBounds j v) t):=by
 simp only[World.setCell,Array.getElem?_modify,h,if_true,Option.map_some];rfl
theorem ujU(t:Tx){f j:Nat}{z:List Int}(hf:t.n-j≤f):vj t f j z=if j<t.n∧yv (t.T j) then vj t (f-1) (j+1) (z++[t.T j]) else (z,j):=by
 cases f with
 |zero=>rw[vj,if_neg (fun q=>by omega)]
 |succ f=>rw[vj];rfl
theorem uiW(t:Tx):∀(f j:Nat) (z:List Int) (r:List Int×Nat),j≤t.n→qg t f j z=some r→j<r.2∧r.2≤t.n
 |0,j,z,r,hj,h=>by cases h
 |f+1,j,z,r,hj,h=>by
  rw[qg]at h;split at h
  ·rename_i q
   injection h with h
   subst h;exact⟨Nat.lt_succ_self _,q.1⟩
  ·split at h
   ·cases h
   ·have:=uaS t j false hj
    have:=uiW t f _ _ r (by omega) h
    omega
theorem uiX{t:Tx}{i:Nat}{r:List Int×Nat}(hi:i<t.n)(h:qY t i=some r):i+1<r.2∧r.2≤t.n:=uiW t _ _ _ r hi h
theorem ufR(t:Tx):∀(f j:Nat) (m:Nat→Bool) (r:(Nat→Bool)×Nat),j≤t.n→yJ t f j m=some r→j≤r.2∧r.2<t.n
 |0,j,m,r,hj,h=>by cases h
 |f+1,j,m,r,hj,h=>by
  have h1:=uaS t j true hj;rw[yJ]at h;split at h
  ·rename_i q
   injection h with h
   subst h;exact⟨Nat.le_refl _,q.1⟩
  ·split at h
   ·cases h
   ·split at h
    ·rename_i q
     have h2:=uaS t (j+(chr t j true).2+1) true (by omega)
     split at h
     ·cases h
     ·have:=ufR t f _ _ r (by omega) h
      omega
    ·have:=ufR t f _ _ r (by omega) h
     omega
theorem uiY{t:Tx}{i:Nat}{r:List Int×Nat}(hi:i<t.n)(h:qX t i=some r):i+1<r.2∧r.2≤t.n:=by
 unfold qX at h;have hb:i+1≤uao t i∧uao t i≤t.n:=by
  unfold uao;split
  ·rename_i q
   have:=of_decide_eq_true q;omega
  ·omega
 cases hc:yJ t (t.n+2-i) (uao t i) (fun _=>false) with
 |none=>rw[hc]at h;cases h
 |some q =>
  obtain⟨m,j⟩:=q;rw[hc,umc]at h;injection h with h
  subst h;have:=ufR t _ _ _ _ hb.2 hc;simp only at this ⊢;omega
end
section
open Go.RowKit
open M (OpD uj Gr)
def xi(t:Tx):Nat→Nat→List Tok
 |0,_=>[]
 |f+1,i=>if i<t.n then (if (vM t i).1.kind=0 then [(vM t i).1] else (vM t i).1::xi t f (vh t (vM t i).2)) else []
def uQ(t:Tx):List Tok:=xi t (t.n+1) (vh t 0)
theorem uh4(t:Tx):∀f i,i≤skp t f i
 |0,i=>Nat.le_refl _
 |f+1,i=>by
  rw[skp];split
  ·split
   ·exact Nat.le_trans (Nat.le_succ i) (uh4 t f (i+1))
   ·split
    ·exact Nat.le_trans (uh1 t _ i) (uh4 t f _)
    ·exact Nat.le_refl _
  ·exact Nat.le_refl _
theorem uh5(t:Tx):∀f i,i≤t.n→skp t f i≤t.n
 |0,i,h=>h
 |f+1,i,h=>by
  rw[skp];split
  ·split
   ·exact uh5 t f (i+1) (by omega)
   ·split
    ·exact uh5 t f _ (uh2 t _ i h)
    ·exact h
  ·exact h
theorem qN(t:Tx)(i:Nat):i≤vh t i:=uh4 t _ i
theorem ui2(t:Tx){i:Nat}(h:i≤t.n):vh t i≤t.n:=uh5 t _ i h
theorem udX(t:Tx):∀(f j:Nat) (z:List Int),j≤t.n→j≤(vj t f j z).2∧(vj t f j z).2≤t.n
 |0,j,z,h=>⟨Nat.le_refl _,h⟩
 |f+1,j,z,h=>by
  rw[vj];split
  ·have:=udX t f (j+1) (z++[t.T j]) (by omega)
   omega
  ·exact⟨Nat.le_refl _,h⟩
theorem uce(t:Tx){i:Nat}(hi:i<t.n)(hk:(vM t i).1.kind≠0):i<(vM t i).2∧(vM t i).2≤t.n:=by
 unfold vM at hk ⊢;split
 ·rename_i hl
  have h1:t.n-i=(t.n-i-1)+1:=by omega
  rw[h1,vj,if_pos ⟨hi,.inl hl⟩];have:=udX t (t.n-i-1) (i+1) ([]++[t.T i]) hi;simp only at this ⊢;omega
 ·rename_i hl
  rw[if_neg hl]at hk;split
  ·rename_i h2
   rw[if_pos h2]at hk;cases h:qY t i with
   |none=>rw[h]at hk;exact absurd rfl hk
   |some q=>have:=uiX hi h;simp only;omega
  ·rename_i h2
   rw[if_neg h2]at hk;split
   ·rename_i h3
    rw[if_pos h3]at hk;cases h:qX t i with
    |none=>rw[h]at hk;exact absurd rfl hk
    |some q=>have:=uiY hi h;simp only;omega
   ·rename_i h3
    split
    ·simp only;omega
    ·simp only;omega
end
section
open Go.RowKit
open M (OpD uj Gr)
def yf(s d:Nat)(k:Int):Nat×Nat :=
 if s=0 then (if k=94 then (1,0) else if k=110 then (2,0) else (7,0))
 else if s=1 then (if k=110 then (2,0) else (7,0))
 else if s=2 then (if k=61 then (3,0) else (7,0))
 else if s=5 then (if k=110 then (6,d) else (7,0))
 else if k=33∨k=38 then (4,d)
 else if k=110∨k=34∨k=91∨k=46 then (6,d)
 else if k=94 then (5,d)
 else if k=40 then (3,d+1)
 else if s=4 then (7,0)
 else if s=6∧(k=42∨k=63) then (3,d)
 else if k=47 then (3,d)
 else if k=41∧0<d then (6,d-1)
 else if k=59∧d=0 then (0,0)
 else (7,0)
end
section
open Go.RowKit
open M (OpD uj Gr)
def uC(n:Nat):List Tok→Nat→Nat→Int
 | [],s,_=>if s=0 then -1 else n
 |x::r,s,d=>if x.kind=0 then x.at_ else if (yf s d x.kind).1=7 then x.at_ else uC n r (yf s d x.kind).1 (yf s d x.kind).2
theorem ujY{α:Type}{l:List α}{i:Nat}{x:α}(h:l[i]? = some x):l.drop i=x::l.drop (i+1):=by
 obtain⟨hl,e⟩:=List.getElem?_eq_some_iff.1 h;rw[List.drop_eq_getElem_cons hl,e]
end
section
open Go.RowKit
open M (OpD uj Gr)
def BytL(z:List Int):Prop:=∀x∈z,0≤x∧x≤255
theorem BytL.byt{z:List Int}(h:BytL z):Byt z.length (lf z):=fun i hi=>by
 unfold lf;rw[List.getD_eq_getElem?_getD,List.getElem?_eq_getElem hi];exact h _ (List.getElem_mem hi)
theorem ujT{y z:List Int}(hy:BytL y)(hz:BytL z):str y.length (lf y)=str z.length (lf z)↔y=z:=by
 rw[umU _ _ _ _ hy.byt hz.byt];constructor
 ·rintro⟨h1,h2⟩
  refine List.ext_getElem h1 (fun i hi hi'=>?_)
  have:=h2 i hi;unfold lf at this;simpa[List.getD_eq_getElem?_getD,hi,hi'] using this
 ·rintro rfl
  exact⟨rfl,fun _ _=>rfl⟩
def vV(z:List Int):List (List Int)→Nat→Int
 | [],_=>-1
 |y::r,i=>if y=z then i else vV z r (i+1)
end
end Go.Proofs.YthicmmhmmfhncaaGreat
