import Derived.Test.YthicmmhmmfhncaaGreatT01
import Derived.Laws.BytesArg
import Derived.Lib.Bytealg
import Derived.Lib.BytesEntry
import Derived.Test.YthicmmhmmfhncaaGreatT02
import Derived.RangeFuncNested
import Derived.RangeFuncBound
import Derived.RangeFuncCalls
import Derived.RangeFuncLeaves
import Derived.Laws.MakeOwn
import Derived.Laws.ResultCell
import Derived.Deep.Slices
import Derived.Shelf.RegionOpen
set_option linter.unusedVariables false
set_option linter.unusedSimpArgs false
namespace Go.Proofs.YthicmmhmmfhncaaGreat
section
open Go.RowKit
open M (OpD uj Gr LessT)
def Byt(n:Nat)(T:Nat→Int):Prop:=∀i,i<n→0≤T i∧T i≤255
def u8s(n:Nat)(T:Nat→Int):List UInt8:=(List.range n).map fun i=>UInt8.ofNat (T i).toNat
def str(n:Nat)(T:Nat→Int):ByteArray:=strOfNums ((List.range n).map T)
theorem qz(n:Nat)(T:Nat→Int):(str n T).toList=u8s n T:=by
 rw[ByteArray.toList_eq,str,strOfNums_data,u8s,List.map_map];rfl
theorem yU(n:Nat)(T:Nat→Int):(str n T).data.toList=u8s n T:=by
 rw[str,strOfNums_data,u8s,List.map_map];rfl
theorem yC(n:Nat)(T:Nat→Int):(str n T).size=n:=by rw[str,strOfNums_size];simp
theorem kT(n:Nat)(T:Nat→Int):u8s (n+1) T=UInt8.ofNat (T 0).toNat::u8s n (fun i=>T (i+1)):=by
 simp[u8s,List.range_succ_eq_map,Function.comp_def]
theorem uqh{x y:Int}(hx:0≤x∧x≤255)(hy:0≤y∧y≤255):UInt8.ofNat x.toNat<UInt8.ofNat y.toNat↔x<y:=by
 rw[UInt8.lt_iff_toNat_lt];simp only[UInt8.toNat_ofNat'];omega
theorem uox{x y:Int}(hx:0≤x∧x≤255)(hy:0≤y∧y≤255):UInt8.ofNat x.toNat=UInt8.ofNat y.toNat↔x=y:=by
 rw[←UInt8.toNat_inj];simp only[UInt8.toNat_ofNat'];omega
theorem ucw(n:Nat)(S T:Nat→Int):¬LessT n S 0 T:=by
 rintro⟨k,_,_,_,⟨_,h,_⟩|⟨_,h⟩⟩<;>omega
theorem ucX(m:Nat)(S T:Nat→Int):LessT 0 S (m+1) T:=⟨0,fun i hi=>by omega,by omega,by omega,.inr ⟨rfl,by omega⟩⟩
theorem uin(n m:Nat)(S T:Nat→Int):LessT (n+1) S (m+1) T↔S 0<T 0∨(S 0=T 0∧LessT n (fun i=>S (i+1)) m (fun i=>T (i+1))):=by
 constructor
 ·rintro⟨k,he,h1,h2,h⟩
  by_cases hk:k=0
  ·subst hk
   rcases h with⟨_,_,h⟩|⟨h,_⟩
   ·exact .inl h
   ·omega
  ·obtain⟨q,rfl⟩:∃q,k=q+1:=⟨k-1,by omega⟩
   refine .inr ⟨he 0 (by omega),q,fun i hi=>he (i+1) (by omega),by omega,by omega,?_⟩
   rcases h with⟨a,b,h⟩|⟨a,b⟩
   ·exact .inl ⟨by omega,by omega,h⟩
   ·exact .inr ⟨by omega,by omega⟩
 ·rintro (h | ⟨h,q,he,h1,h2,h3⟩)
  ·exact⟨0,fun i hi=>by omega,by omega,by omega,.inl ⟨by omega,by omega,h⟩⟩
  ·refine⟨q+1,fun i hi=>?_,by omega,by omega,?_⟩
   ·by_cases e:i=0
    ·subst e;exact h
    ·obtain⟨j,rfl⟩:∃j,i=j+1:=⟨i-1,by omega⟩
     exact he j (by omega)
   ·rcases h3 with⟨a,b,h⟩|⟨a,b⟩
    ·exact .inl ⟨by omega,by omega,h⟩
    ·exact .inr ⟨by omega,by omega⟩
theorem uek:∀(n m:Nat) (S T:Nat→Int),Byt n S→Byt m T→(Op.bytesLess (u8s n S) (u8s m T)=true↔LessT n S m T)
 |n,0,S,T,_,_=>by
  have:u8s 0 T = []:=rfl;rw[this];cases u8s n S<;>simp[Op.bytesLess,ucw]
 |0,m+1,S,T,_,_=>by
  rw[kT];have:u8s 0 S = []:=rfl;rw[this];simp[Op.bytesLess,ucX]
 |n+1,m+1,S,T,hS,hT=>by
  have ih:=uek n m (fun i=>S (i+1)) (fun i=>T (i+1)) (fun i hi=>hS (i+1) (by omega)) (fun i hi=>hT (i+1) (by omega))
  rw[kT,kT,Op.bytesLess,uin,←ih];simp only[Bool.or_eq_true,Bool.and_eq_true,decide_eq_true_eq,beq_iff_eq];rw[uqh (hS 0 (by omega)) (hT 0 (by omega)),uox (hS 0 (by omega)) (hT 0 (by omega))]
theorem uhl:∀(xs ys:List UInt8),-1≤Lib.compareBytes xs ys∧Lib.compareBytes xs ys≤1∧(Lib.compareBytes xs ys<0↔Op.bytesLess xs ys=true)
 | [],[]=>by simp[Lib.compareBytes,Op.bytesLess]
 | [],_::_=>by simp[Lib.compareBytes,Op.bytesLess]
 |_::_,[]=>by simp[Lib.compareBytes,Op.bytesLess]
 |a::x,b::y=>by
  obtain⟨h1,h2,h3⟩:=uhl x y;rw[Lib.compareBytes,Op.bytesLess];by_cases e:a<b
  ·simp[e]
  ·by_cases e2:b<a
   ·have hne:¬a=b:=fun q=>e (by rw[q]at e2 ⊢;exact e2)
    simp[e,e2,hne]
   ·have hab:a=b:=UInt8.le_antisymm (UInt8.not_lt.1 e2) (UInt8.not_lt.1 e)
    subst hab;simp[e];exact⟨h1,h2,h3⟩
theorem uio:∀(n m:Nat) (S T:Nat→Int),Byt n S→Byt m T→(u8s n S=u8s m T↔n=m∧∀i,i<n→S i=T i)
 |0,0,S,T,_,_=>⟨fun _=>⟨rfl,fun i hi=>by omega⟩,fun _=>rfl⟩
 |0,m+1,S,T,_,_=>by
  rw[kT];exact⟨fun h=>absurd h (by simp[u8s]),fun h=>by omega⟩
 |n+1,0,S,T,_,_=>by
  rw[kT];exact⟨fun h=>absurd h (by simp[u8s]),fun h=>by omega⟩
 |n+1,m+1,S,T,hS,hT=>by
  have ih:=uio n m (fun i=>S (i+1)) (fun i=>T (i+1)) (fun i hi=>hS (i+1) (by omega)) (fun i hi=>hT (i+1) (by omega))
  rw[kT,kT,List.cons.injEq,ih,uox (hS 0 (by omega)) (hT 0 (by omega))]
  constructor
  ·rintro⟨h0,h1,h2⟩
   refine⟨by omega,fun i hi=>?_⟩
   by_cases e:i=0
   ·subst e;exact h0
   ·obtain⟨j,rfl⟩:∃j,i=j+1:=⟨i-1,by omega⟩
    exact h2 j (by omega)
  ·rintro⟨h1,h2⟩
   exact⟨h2 0 (by omega),by omega,fun i hi=>h2 (i+1) (by omega)⟩
theorem umU(n m:Nat)(S T:Nat→Int)(hS:Byt n S)(hT:Byt m T):str n S=str m T↔n=m∧∀i,i<n→S i=T i:=by
 rw[←uio n m S T hS hT,←yU,←yU];constructor
 ·intro h;rw[h]
 ·intro h
  apply ByteArray.ext
  exact Array.ext' h
theorem ukO(w:World)(x:Addr):(loadCells x 0).run Tryz.prog w=.ok #[] w:=by
 have:=run_loadCells_list (P:=Tryz.prog) w x [] (fun j v h=>by simp at h)
 simpa using this
theorem vZ(Q:Nat→Prop)(a:Option Addr)(n c:Nat)(T:Nat→Int)(w:World)(h:Ints Q .u8 w a n T):(convert 22 9 (.slice a n c)).run Tryz.prog w=.ok (.string (str n T)) w:=by
 by_cases h0:n=0
 ·subst h0
  cases a with
  |none=>exact run_convert_bytes_nil w 22 5 Tryz.underlying22 Tryz.underlying5 0 c 9 Tryz.underlying9
  |some x =>
   rw[run_convert_bytes_string w 22 9 5 _ 0 c Tryz.underlying22 Tryz.underlying5 Tryz.underlying9,run_bytesToString w x 0 c [] (by simpa using ukO w x)]
   rfl
 ·rcases h with h | ⟨b,off,rfl,hq,h⟩
  ·omega
  ·exact run_convert_bytes_arg w 22 5 Tryz.underlying22 Tryz.underlying5 b off n c ((List.range n).map T) (by simp) (fun i hi=>by rw[h i hi];simp[hi]) 9 Tryz.underlying9
set_option maxHeartbeats 1000000 in
theorem uel(Q:Nat→Prop)(a a':Option Addr)(n c m c':Nat)(S T:Nat→Int)(w:World)(hS:Ints Q .u8 w a n S)(hT:Ints Q .u8 w a' m T)(bS:Byt n S)(bT:Byt m T) :
  Calls Tryz.prog 14 #[.slice a n c,.slice a' m c'] w (Says (LessT n S m T) w):=by
 have r1:=vZ Q a n c S w hS;have r2:=vZ Q a' m c' T w hT;have HL:Hid (Op.bytesLess (u8s n S) (u8s m T)=true↔LessT n S m T):=uek n m S T bS bT;have HS1:Hid ((str n S).toList=u8s n S):=qz n S;have HS2:Hid ((str m T).toList=u8s m T):=qz m T;clear hS hT bS bT;generalize str n S=s1 at *;generalize str m T=s2 at *;go_enter Tryz.func14,Tryz.ntmps14;go_wp2;go_ret;exact⟨⟨_,rfl,by rw[HS1.out,HS2.out];exact HL.out⟩,rfl⟩
theorem ucP(Q:Nat→Prop)(a:Option Addr)(n c:Nat)(T:Nat→Int)(w:World)(h:Ints Q .u8 w a n T):(Extern.Bytes.bytesOf (.slice a n c)).run Tryz.prog w=.ok (str n T) w:=by
 have hcat:(⟨ByteArray.empty.data++(Lib.bytesOf ((List.range n).map T)).toArray⟩:ByteArray)=str n T:=by
  apply ByteArray.ext
  show (#[]:Array UInt8)++(Lib.bytesOf ((List.range n).map T)).toArray=_;simp[Lib.bytesOf,str,strOfNums]
 by_cases h0:n=0
 ·subst h0
  cases a with
  |none=>rfl
  |some x =>
   have:=Lib.run_loadBytesX (P:=Tryz.prog) w [] x .empty (fun j y h=>by simp at h)
   exact this
 ·rcases h with h | ⟨b,off,rfl,hq,h⟩
  ·omega
  ·have hl:=Lib.run_loadBytesX (P:=Tryz.prog) w ((List.range n).map T) ⟨b,off,none⟩ .empty (fun j x hj=>by
    have hjl:j<n:=by simpa using (List.getElem?_eq_some_iff.1 hj).1
    have e:(⟨b,off,none⟩:Addr).add j=⟨b,off+j,none⟩:=by unfold Addr.add;split<;>simp_all
    rw[e,h j hjl];simp[hjl]at hj;rw[hj])
   rw[hcat,show ((List.range n).map T).length=n by simp]at hl
   exact hl
theorem uhm(Q:Nat→Prop)(a a':Option Addr)(n c m c':Nat)(S T:Nat→Int)(w:World)(hS:Ints Q .u8 w a n S)(hT:Ints Q .u8 w a' m T) :
  (Extern.BytealgCompare.compare #[.slice a n c,.slice a' m c']).run Tryz.prog w=.ok (.int .i64 (Lib.compareBytes (u8s n S) (u8s m T))) w:=by
 change Sem.run Tryz.prog (do pure (goInt (Extern.BytealgCompare.cmp (←Extern.Bytes.bytesOf (.slice a n c)) (←Extern.Bytes.bytesOf (.slice a' m c'))))) w=_;simp only[Sem.run_bind,ucP Q a n c S w hS,ucP Q a' m c' T w hT,Sem.run_pure,Result.andThen];rw[Lib.cmp_eq,yU,yU];rfl
set_option maxHeartbeats 1000000 in
set_option maxRecDepth 100000 in
theorem uhn(n m:Nat)(S T:Nat→Int)(bS:Byt n S)(bT:Byt m T):∃r:Int,-1≤r∧r≤1∧(r<0↔LessT n S m T) ∧
  ∀(Q:Nat→Prop) (a a':Option Addr) (c c':Nat) (w:World),Ints Q .u8 w a n S→Ints Q .u8 w a' m T→Calls Tryz.prog 78 #[.slice a n c,.slice a' m c'] w fun e w'=>e=.returned (.int .i64 r)∧w'=w:=by
 obtain⟨h1,h2,h3⟩:=uhl (u8s n S) (u8s m T);refine⟨_,h1,h2,h3.trans (uek n m S T bS bT),fun Q a a' c c' w hS hT=>?_⟩
 have HR:Hid ((Extern.BytealgCompare.compare #[.slice a n c,.slice a' m c']).run Tryz.prog w=.ok (.int .i64 (Lib.compareBytes (u8s n S) (u8s m T))) w):=uhm Q a a' n c m c' S T w hS hT;clear hS hT bS bT h1 h2 h3;go_enter Tryz.func78,Tryz.ntmps78;go_wp2;rw[run_callFunc_extern Tryz.func96 (by kernel_rfl) (by kernel_rfl) (by kernel_rfl) (e:=Extern.BytealgCompare.compare) (by kernel_rfl),HR.out]
 simp only[Result.andThen];rw[Oper.upon_value];go_wp2;go_ret;exact⟨rfl,rfl⟩
end
section
open Go.RowKit
open M (OpD uj Gr)
structure yL(d:uj):Prop where
 name:d.nl≤1048576
 byt:Byt d.nl d.name
 body:yB d.bl d.body
structure GramA(Q:Nat→Prop)(w:World)(ra la:Option Addr)(g:Gr):Prop where
 rules:RulesA Q w ra g.nr g.rule
 labs:LabsA Q w la g.nb g.lab
structure yb(g:Gr):Prop where
 nr:g.nr≤1048576
 nb:g.nb≤1048576
 rule:∀i,i<g.nr→yL (g.rule i)
 lab:∀i,i<g.nb→yL (g.lab i)
theorem GramA.later{Q:Nat→Prop}{w w':World}{ra la:Option Addr}{g:Gr}(h:GramA Q w ra la g)(t:Below w.heap.size w w'):GramA Q w' ra la g :=
 ⟨h.rules.later t,h.labs.later t⟩
def kD(g:Gr):Prop:=(∀i,i<g.nr→M.BodyOK g.nr g.nb (g.rule i).bl (g.rule i).body) ∧
 (∀i,i<g.nb→((g.lab i).has=true→M.BodyOK g.nr g.nb (g.lab i).bl (g.lab i).body)∧((g.lab i).has=false→(g.lab i).bl=0))
def ufD(W1:World)(n:Nat)(p:Nat→Prop)(i:Value)(wr:World):Prop :=
 ∃k:Nat,k≤n∧i=.int .i64 (k:Int)∧Below W1.heap.size W1 wr∧∀j,j<k→p j
theorem vL{p:Nat→Prop}{k:Nat}(h:∀j,j<k→p j)(hk:p k):∀j,j<k+1→p j:=fun j hj =>
 if e:j=k then e▸hk else h j (by omega)
set_option maxHeartbeats 4000000 in
theorem qb(Q:Nat→Prop)(ra la:Option Addr)(rc lc:Nat)(g:Gr)(w:World)(hG:GramA Q w ra la g)(hs:yb g) :
  Calls Tryz.prog 46 #[.agg #[.slice ra g.nr rc,.slice la g.nb lc]] w (yT (kD g) w):=by
 obtain⟨nr,R,nb,L⟩:=g;obtain⟨hR,hL⟩:=hG;obtain⟨h1,h2,s1,s2⟩:=hs;simp only at hR hL h1 h2 s1 s2 ⊢;have HR:Hid (RulesA Q w ra nr R):=hR;have HL:Hid (LabsA Q w la nb L):=hL;have S1:Hid (∀i,i<nr→yL (R i)):=s1;have S2:Hid (∀i,i<nb→yL (L i)):=s2;clear hR hL s1 s2;go_enter Tryz.func46,Tryz.ntmps46;go_wp2;go_loopw [10] (fun i wr=>ufD (w.alloc (.cells #[.slice ra nr rc,.slice la nb lc] 26)) nr (fun j=>M.BodyOK nr nb (R j).bl (R j).body) i wr) (fun i _=>nr-(intOf i).toNat)
 case atStart=>exact⟨0,Nat.zero_le _,rfl,Below.refl _ _,fun j hj=>absurd hj (Nat.not_lt_zero _)⟩
 case round =>
  obtain⟨k,hk,rfl,hbel,hall⟩:=hrel;have HA:Hid (∀j,j<k→M.BodyOK nr nb (R j).bl (R j).body):=hall;clear hall;have hbw:Below w.heap.size w wr:=uh (up w _) hbel;have g0:wr.cell? ⟨w.heap.size,0,none⟩=some (.slice ra nr rc):=ug (by simp) hbel
  have g1:wr.cell? ⟨w.heap.size,1,none⟩=some (.slice la nb lc):=ug (by simp) hbel
  have hsz:w.heap.size<wr.heap.size:=by have:=hbel.size;simp at this;omega
  by_cases hlt:k<nr
  ·have hR:=HR.out.later hbw
   rcases hR with h0 | ⟨b,off,rfl,hq,hR⟩
   ·omega
   obtain⟨⟨na,nc,c0,hn⟩,⟨ba,bc,c1,hb⟩⟩:=hR k hlt;have hbl:b<wr.heap.size:=ub c0;have HBW:Hid (Below w.heap.size w wr):=hbw;have HBE:Hid (Below (w.alloc (.cells #[.slice (some ⟨b,off,none⟩) nr rc,.slice la nb lc] 26)).heap.size (w.alloc (.cells #[.slice (some ⟨b,off,none⟩) nr rc,.slice la nb lc] 26)) wr):=hbel;have HO:Hid (OpsA Q wr ba (R k).bl (R k).body):=hb;have SB:Hid (yB (R k).bl (R k).body):=(S1.out k hlt).body;clear hR hbw hbel hn hb;by_cases he:M.BodyOK nr nb (R k).bl (R k).body
   ·have HE:Hid (M.BodyOK nr nb (R k).bl (R k).body):=he
    clear he;go_wp2_with (go_at_call 79;refine (yI Q (some ⟨b,off,none⟩) la ba nr rc nb lc (R k).bl bc (R k).body _ (HO.out.later (up wr _)) h1 h2 SB.out).mono ?_;rintro e W ⟨⟨r,rfl,hr⟩,hb⟩;obtain rfl:r=true:=hr.2 HE.out;have HW:Hid _:=hb;clear hr hb);go_roundw
    case rel=>exact⟨k+1,by omega,by go_num,uh HBE.out (uh (up wr _) HW.out),vL HA.out HE.out⟩
    case measure=>simp[intOf];omega
   ·have HE:Hid (¬M.BodyOK nr nb (R k).bl (R k).body):=he
    clear he;go_wp2_with (go_at_call 79;refine (yI Q (some ⟨b,off,none⟩) la ba nr rc nb lc (R k).bl bc (R k).body _ (HO.out.later (up wr _)) h1 h2 SB.out).mono ?_;rintro e W ⟨⟨r,rfl,hr⟩,hb⟩;obtain rfl:r=false:=by { cases r;rfl;exact absurd (hr.1 rfl) HE.out };have HW:Hid _:=hb;clear hr hb)
    go_ret;exact⟨⟨false,rfl,uR fun q=>HE.out (q.1 k hlt)⟩,uh HBW.out (uh (up wr _) HW.out)⟩
  ·obtain rfl:k=nr:=by omega
   obtain⟨W1,eW⟩:∃W1,wr=W1:=⟨_,rfl⟩;subst wr;have HBW:Hid (Below w.heap.size w W1):=hbw;have HL':Hid (LabsA Q W1 la nb L):=HL.out.later hbw;clear hbel hbw HL;go_wp2;go_loopw [23] (fun i wr'=>ufD W1 nb (fun j=>((L j).has=true→M.BodyOK k nb (L j).bl (L j).body)∧((L j).has=false→(L j).bl=0)) i wr') (fun i _=>nb-(intOf i).toNat)
   case atStart=>exact⟨0,Nat.zero_le _,rfl,Below.refl _ _,fun j hj=>absurd hj (Nat.not_lt_zero _)⟩
   case round =>
    obtain⟨m,hm,rfl,hbel,hall⟩:=hrel;have HM:Hid (∀j,j<m→((L j).has=true→M.BodyOK k nb (L j).bl (L j).body)∧((L j).has=false→(L j).bl=0)):=hall;clear hall;have HBE:Hid (Below W1.heap.size W1 wr):=hbel;have HBX:Hid (Below w.heap.size w wr):=uh HBW.out hbel;have e0:wr.cell? ⟨w.heap.size,0,none⟩=some (.slice ra k rc):=ug g0 hbel;have e1:wr.cell? ⟨w.heap.size,1,none⟩=some (.slice la nb lc):=ug g1 hbel;have esz:w.heap.size<wr.heap.size:=Nat.lt_of_lt_of_le hsz hbel.size;clear g0 g1 hsz;by_cases hlt:m<nb
    ·have hL:=HL'.out.later hbel
     rcases hL with h0 | ⟨b,off,rfl,hq,hL⟩
     ·omega
     obtain⟨⟨na,nc,c0,hn⟩,c1,⟨ba,bc,c2,hb⟩⟩:=hL m hlt;have hbl:b<wr.heap.size:=ub c0;have HO:Hid (OpsA Q wr ba (L m).bl (L m).body):=hb;have SB:Hid (yB (L m).bl (L m).body):=(S2.out m hlt).body;have hbs:=SB.out.1;clear hL hbel hn hb;by_cases hh:(L m).has=true
     ·have HH:Hid ((L m).has=true):=hh
      rw[hh]at c1;clear hh;by_cases he:M.BodyOK k nb (L m).bl (L m).body
      ·have HE:Hid (M.BodyOK k nb (L m).bl (L m).body):=he
       clear he;go_wp2_with (go_at_call 79;refine (yI Q ra (some ⟨b,off,none⟩) ba k rc nb lc (L m).bl bc (L m).body _ (HO.out.later (up wr _)) h1 h2 SB.out).mono ?_;rintro e W ⟨⟨r,rfl,hr⟩,hb⟩;obtain rfl:r=true:=hr.2 HE.out;have x1:=(ug (a:=⟨wr.heap.size,1,none⟩) (v:=.bool true) (by simp) hb);have HW:Hid _:=hb;clear hr hb)
       go_roundw
       case rel=>exact⟨m+1,by omega,by go_num,uh HBE.out (uh (up wr _) HW.out),vL HM.out ⟨fun _=>HE.out,fun q=>absurd (HH.out.symm.trans q) (by decide)⟩⟩
       case measure=>simp[intOf];omega
      ·have HE:Hid (¬M.BodyOK k nb (L m).bl (L m).body):=he
       clear he;go_wp2_with (go_at_call 79;refine (yI Q ra (some ⟨b,off,none⟩) ba k rc nb lc (L m).bl bc (L m).body _ (HO.out.later (up wr _)) h1 h2 SB.out).mono ?_;rintro e W ⟨⟨r,rfl,hr⟩,hb⟩;obtain rfl:r=false:=by { cases r;rfl;exact absurd (hr.1 rfl) HE.out };have HW:Hid _:=hb;clear hr hb)
       go_ret;exact⟨⟨false,rfl,uR fun q=>HE.out ((q.2 m hlt).1 HH.out)⟩,uh HBX.out (uh (up wr _) HW.out)⟩
     ·have hh':(L m).has=false:=by simpa using hh
      have HH:Hid ((L m).has=false):=hh';rw[hh']at c1;clear hh hh';by_cases hz:(L m).bl=0
      ·have HZ:Hid ((L m).bl=0):=hz
       have fz:¬(0:Int)<((L m).bl:Int):=by omega
       clear hz;go_wp2;go_roundw
       case rel=>exact⟨m+1,by omega,by go_num,uh HBE.out (up wr _),vL HM.out ⟨fun q=>absurd (HH.out.symm.trans q) (by decide),fun _=>HZ.out⟩⟩
       case measure=>simp[intOf];omega
      ·have HZ:Hid (¬(L m).bl=0):=hz
       have fz:(0:Int)<((L m).bl:Int):=by omega
       clear hz;go_wp2;go_ret;exact⟨⟨false,rfl,uR fun q=>HZ.out ((q.2 m hlt).2 HH.out)⟩,uh HBX.out (up wr _)⟩
    ·obtain rfl:m=nb:=by omega
     go_wp2;go_ret;exact⟨⟨true,rfl,yN ⟨HA.out,HM.out⟩⟩,HBX.out⟩
end
section
open Go.RowKit
structure Keep(C:Nat→Prop)(W W':World):Prop where
 os:W'.os=W.os
 tape:W'.tape=W.tape
 output:W'.output=W.output
 size:W.heap.size≤W'.heap.size
 block:∀k,k<W.heap.size→¬C k→W'.heap[k]? = W.heap[k]?
theorem Keep.refl(C:Nat→Prop)(W:World):Keep C W W:=⟨rfl,rfl,rfl,Nat.le_refl _,fun _ _ _=>rfl⟩
theorem Keep.trans{C:Nat→Prop}{A B E:World}(h:Keep C A B)(k:Keep C B E):Keep C A E :=
 ⟨k.os.trans h.os,k.tape.trans h.tape,k.output.trans h.output,Nat.le_trans h.size k.size,fun i hi hc=>(k.block i (Nat.lt_of_lt_of_le hi h.size) hc).trans (h.block i hi hc)⟩
theorem Keep.mono{C C':Nat→Prop}{A B:World}(h:Keep C A B)(hc:∀k,C k→C' k):Keep C' A B :=
 ⟨h.os,h.tape,h.output,h.size,fun i hi hn=>h.block i hi (fun q=>hn (hc i q))⟩
theorem Keep.alloc(C:Nat→Prop)(W:World)(o:Obj):Keep C W (W.alloc o) :=
 ⟨rfl,rfl,rfl,by simp,fun k hk _=>Below.heap_alloc W o k hk⟩
theorem Keep.drew(C:Nat→Prop)(W:World):Keep C W W.drew:=⟨rfl,rfl,rfl,Nat.le_refl _,fun _ _ _=>rfl⟩
theorem Keep.setCell{C:Nat→Prop}(W:World)(a:Addr)(v:Value)(h:C a.block):Keep C W (W.setCell a v) :=
 ⟨rfl,rfl,rfl,by simp[World.setCell],fun k _ hn=>Below.heap_setCell _ _ _ _ (fun e=>hn (e▸h))⟩
theorem Keep.putObj{C:Nat→Prop}(W:World)(r:Nat)(o:Obj)(h:C r):Keep C W (W.putObj r o) :=
 ⟨rfl,rfl,rfl,by simp,fun k _ hn=>World.putObj_heap_other (fun e=>hn (e▸h))⟩
theorem Keep.of_below{C:Nat→Prop}{B:Nat}{W W':World}(h:Below B W W')(hc:∀k,k<W.heap.size→¬C k→k<B):Keep C W W' :=
 ⟨h.os,h.tape,h.output,h.size,fun k hk hn=>h.block k (hc k hk hn)⟩
theorem Keep.below{C:Nat→Prop}{B:Nat}{W W':World}(h:Keep C W W')(hB:B≤W.heap.size)(hc:∀k,k<B→¬C k):Below B W W' :=
 ⟨h.os,h.tape,h.output,h.size,fun k hk=>h.block k (by omega) (hc k hk)⟩
theorem Keep.cell{C:Nat→Prop}{W W':World}(h:Keep C W W'){p:Addr}(hp:p.block<W.heap.size)(hc:¬C p.block):W'.cell? p=W.cell? p :=
 World.cell?_of_block (h.block p.block hp hc)
theorem uaT(W:World)(v:Value)(t:TypeId):(W.alloc (.cells #[v] t)).cell? ⟨W.heap.size,0,none⟩=some v:=by
 have h:=World.alloc_heap_new W (.cells #[v] t);simp only[World.cell?,h];rfl
theorem ucf(W:World)(v:Value)(t:TypeId):(W.alloc (.cells #[v] t)).frozen? ⟨W.heap.size,0,none⟩=false:=by
 have h:=World.alloc_heap_new W (.cells #[v] t);simp only[World.frozen?,h];rfl
theorem vp{W:World}{a:Addr}{v:Value}(o:Obj)(h:W.cell? a=some v):(W.alloc o).cell? a=some v:=cell_kept h (World.grownBy_alloc W o none) (fun r e=>by cases e)
theorem udY{W:World}{a:Addr}{v:Value}(o:Obj)(h:W.cell? a=some v)(hf:W.frozen? a=false):(W.alloc o).frozen? a=false:=(frozen_kept h (World.grownBy_alloc W o none) (fun r e=>by cases e)).trans hf
theorem uaU{B d:Nat}(W:World)(o:Obj)(h:B≤d)(hs:B≤W.heap.size):Below B W (W.putObj d o) :=
 (Below.refl _ W).grown (grownBy_putObj' W d o) hs (fun k e=>by cases e;exact h)
def Ab{σ:Type}(B:Nat)(J:σ→World→Prop):Prop:=∀s A E,J s A→Below B A E→J s E
def uor{σ:Type}(P:Program)(g:Nat)(lb:Array Value)(s0:σ)(more:σ→Prop)(next:σ→σ)(enc:σ→Array Value)(D:Nat→Prop)(w:World):Prop :=
 ∀(l:Nat) (C:Nat→Prop) (J Jx:σ→World→Prop) (W:World),w.heap.size≤W.heap.size→(∀k,D k→W.heap[k]? = w.heap[k]?)→(∀k,D k→¬C k)→(∀k,W.heap.size≤k→¬C k) →
  Ab W.heap.size J→Ab W.heap.size Jx →
  (∀s W1,J s W1→more s→YieldAt Fence.wide 0 P l (enc s) W1 fun e W' =>
   (e=.returned (.bool true)∧J (next s) W'∧Keep C W1 W')∨(e=.returned (.bool false)∧Jx s W'∧Keep C W1 W')) →
  J s0 W →
  CallsIn Fence.wide 0 P g (#[.func (.yield l) #[] #[]]++lb) W fun e W'=>(∃v,e=.returned v)∧((∃s,¬more s∧J s W')∨(∃s,more s∧Jx s W'))
def ujZ{σ:Type}(C:Nat→Prop)(I:σ→World→Prop)(Ix:Code→σ→World→Prop)(s s':σ)(W:World):Exit→Act→World→Prop
 | .normal,_,W'=>Keep C W W'∧I s' W'
 | .ret,_,W'=>Keep C W W'∧Ix .ret s W'
 | .exit id,_,W'=>Keep C W W'∧Ix (.exit id) s W'
 | .goto t,_,W'=>Keep C W W'∧Ix (.goto t) s W'
 | .panic _,_,_=>False
 | .outgrown,_,_=>False
theorem ue9{P:Program}{σ:Type}{g:Operand}{ps:Array Tmp}{assign body:Code}{Q:Exit→Act→World→Prop}{a:Act}{w:World}
  {gf:Nat} {lb:Array Value} (hg:a.eval g=.func (.func gf) #[] lb) (eg:∀args w,(callFunc gf args).run P w=.ok (.enter gf args) w)
  {s0:σ} {more:σ→Prop} {next:σ→σ} {enc:σ→Array Value} {D:Nat→Prop} (hseq:uor P gf lb s0 more next enc D w) (hps:∀s,(enc s).size=ps.size)
  (hD:∀k,D k→k<w.heap.size)
  (C:Nat→Prop) (hCD:∀k,D k→¬C k) (hCw:∀k,w.heap.size≤k→¬C k)
  (I:σ→World→Prop) (Ix:Code→σ→World→Prop) (hI:Ab w.heap.size I) (hIx:∀c,Ab w.heap.size (Ix c)) (h0:I s0 w)
  (hround:∀(l:Nat) (s:σ) (W:World),w.heap.size≤l→l<W.heap.size→I s W→more s →
   assign.wpIn (Fence.wide.inRound l) 0 P (Exit.then (fun a₁ W₁=>Keep C W W₁∧I s W₁∧∀W₂,Keep (fun k=>k=l) W₁ W₂→W₂.heap.size=W₁.heap.size→I s W₂ →
     body.wpIn (Fence.wide.inRound l) 0 P (ujZ C I Ix s (next s) W₂) a₁ W₂) (fun _ _ _=>False))
    { tmps:=(ps.zip (enc s)).foldl (fun t (p,v)=>t.setIfInBounds p v) a.tmps,defers:=[] } W)
  (hdone:∀(d:Nat) (s:σ) (W:World),w.heap.size≤d→¬more s→I s W→W.heap[d]? = some (.deferred (some []))→Q .normal { a with defers:={ target:=.collected d,args:=#[] } :: a.defers } W)
  (hstop:∀(d:Nat) (c:Code) (s:σ) (W:World),w.heap.size≤d→more s→Ix c s W→W.heap[d]? = some (.deferred (some []))→c.wpIn Fence.wide 0 P Q { a with defers:={ target:=.collected d,args:=#[] } :: a.defers } W) :
  (Code.rangeFunc g ps assign body).wpIn Fence.wide 0 P Q a w:=by
 refine wpIn_rangeFunc ?_;intro fn hfn;obtain⟨rec,hrec⟩:∃rec:LoopState→Option Code→Loop,rec=fun st pe=>{ state:=st,pending:=pe,fn,tmps:=a.tmps,params:=ps,assign,body,defers:=w.heap.size }:=⟨_,rfl⟩
 obtain⟨W1,hW1⟩:∃W1,(w.alloc (.deferred (some []))).alloc (.loop (rec .ready none))=W1:=⟨_,rfl⟩;have hs1:W1.heap.size=w.heap.size+2:=by rw[←hW1];simp
 have hL1:W1.heap[w.heap.size+1]? = some (.loop (rec .ready none)):=by
  rw[←hW1];have:=World.alloc_heap_new (w.alloc (.deferred (some []))) (.loop (rec .ready none));rwa [World.size_alloc]at this
 have hK1:W1.heap[w.heap.size]? = some (.deferred (some [])):=by
  rw[←hW1];exact (Below.heap_alloc _ _ _ (by simp)).trans (World.alloc_heap_new w _)
 have hb1:Below w.heap.size w W1:=by
  rw[←hW1];exact ((Below.refl _ w).alloc (Nat.le_refl _) _).alloc (by simp) _
 have hput:∀(W:World) (o:Obj),w.heap.size+1<W.heap.size→Below w.heap.size W (W.putObj (w.heap.size+1) o):=fun W o hlt =>
  (Below.refl _ W).grown (grownBy_putObj' W _ o) (by omega) (fun k e=>by cases e;omega)
 refine⟨w.heap.size+1,[{ target:=.collected w.heap.size,args:=#[] }],W1,{ target:=.fn (.func gf) lb,args:=#[.func (.yield (w.heap.size+1)) #[] #[]] },W1,gf,
  #[.func (.yield (w.heap.size + 1)) #[] #[]] ++ lb, W1, ?_, ?_, ?_, ?_, ?_, ?_⟩
 ·rw[←hW1,hrec];exact run_enterLoop_outer _ _ _ _ _
 ·simp only[resolve,hg]
  simp[go_sem]
 ·intro f' _;trivial
 ·simp[invoke,go_sem,eg]
 ·intro h;simp[Fence.wide]at h
 ·refine (hseq (w.heap.size+1) (fun k=>C k∨k=w.heap.size+1)
   (fun s W=>I s W∧W.heap[w.heap.size+1]? = some (.loop (rec .ready none))∧W.heap[w.heap.size]? = some (.deferred (some [])))
   (fun s W=>∃c,Ix c s W∧W.heap[w.heap.size+1]? = some (.loop (rec .done (some c)))∧W.heap[w.heap.size]? = some (.deferred (some [])))
   W1 (by omega) (fun k hk=>hb1.block k (hD k hk)) (fun k hk hc=>hc.elim (hCD k hk) (fun e=>by have:=hD k hk;omega)) (fun k hk hc=>hc.elim (hCw k (by omega)) (fun e=>by omega))
   (fun s A E hs hb=>⟨hI s A E hs.1 (hb.mono (by omega)),(hb.block _ (by omega)).trans hs.2.1,(hb.block _ (by omega)).trans hs.2.2⟩)
   (fun s A E hs hb=>by
    obtain⟨c,hc,hl,hk⟩:=hs;exact⟨c,hIx c s A E hc (hb.mono (by omega)),(hb.block _ (by omega)).trans hl,(hb.block _ (by omega)).trans hk⟩)
   ?_ ⟨hI s0 w W1 h0 hb1,hL1,hK1⟩).mono ?_
  ·
   rintro s W ⟨hi,hl,hk⟩ hm;have hlt:w.heap.size+1<W.heap.size:=(Array.getElem?_eq_some_iff.1 hl).1;have hy:=run_yield (P:=P) (args:=enc s) hl (by rw[hrec];exact hps s)
   rw[hrec]at hy;refine⟨fn,_,assign,body,hy,roundIn_of_wpIn hfn (wpIn_mono (hround _ s W (by omega) hlt hi hm) ?_)⟩
   intro e a₁ Wa hp;cases e with
   |normal =>
    obtain⟨hka,hia,hb⟩:=hp;have hla:Wa.heap[w.heap.size+1]? = some (.loop (rec .ready none)):=(hka.block _ hlt (hCw _ (by omega))).trans hl
    have hda:Wa.heap[w.heap.size]? = some (.deferred (some [])):=(hka.block _ (by omega) (hCw _ (by omega))).trans hk
    have hlta:w.heap.size+1<Wa.heap.size:=Nat.lt_of_lt_of_le hlt hka.size;refine⟨_,run_beginRound hla (by rw[hrec]),?_⟩
    have hib:=hI s Wa _ hia (hput Wa (.loop { rec .ready none with state:=.busy }) hlta)
    have hlb:(Wa.putObj (w.heap.size+1) (.loop { rec .ready none with state:=.busy })).heap[w.heap.size+1]? = some (.loop { rec .ready none with state:=.busy }):=World.putObj_heap_same hlta
    have hdb:(Wa.putObj (w.heap.size+1) (.loop { rec .ready none with state:=.busy })).heap[w.heap.size]? = some (.deferred (some [])):=(World.putObj_heap_other (by omega)).trans hda
    refine wpIn_mono (hb _ (Keep.putObj _ _ _ rfl) (by simp) hib) ?_
    have fin:∀(jump:Option Code) (W3:World),Keep C (Wa.putObj (w.heap.size+1) (.loop { rec .ready none with state:=.busy })) W3 →
      (Instr.endRound (w.heap.size+1) jump).run P W3=.ok (.bool jump.isNone) (W3.putObj (w.heap.size+1) (.loop (rec (if jump.isNone then .ready else .done) jump))) ∧
      w.heap.size+1<W3.heap.size ∧
      (W3.putObj (w.heap.size+1) (.loop (rec (if jump.isNone then .ready else .done) jump))).heap[w.heap.size+1]? = some (.loop (rec (if jump.isNone then .ready else .done) jump)) ∧
      (W3.putObj (w.heap.size+1) (.loop (rec (if jump.isNone then .ready else .done) jump))).heap[w.heap.size]? = some (.deferred (some [])):=fun jump W3 hk3=>by
     have hl3:=(hk3.block _ (by simpa using hlta) (hCw _ (by omega))).trans hlb
     have hd3:=(hk3.block w.heap.size (by simp;omega) (hCw _ (by omega))).trans hdb
     have:=run_endRound (P:=P) jump hl3;rw[hrec]at this ⊢;exact⟨this,(Array.getElem?_eq_some_iff.1 hl3).1,World.putObj_heap_same (Array.getElem?_eq_some_iff.1 hl3).1,(World.putObj_heap_other (by omega)).trans hd3⟩
    have hkeep:∀(W3:World) (o:Obj),Keep C (Wa.putObj (w.heap.size+1) (.loop { rec .ready none with state:=.busy })) W3→Keep (fun k=>C k∨k=w.heap.size+1) W (W3.putObj (w.heap.size+1) o):=fun W3 o hk3 =>
     ((hka.mono fun _=>.inl).trans (Keep.putObj _ _ _ (.inr rfl))).trans ((hk3.mono fun _=>.inl).trans (Keep.putObj _ _ _ (.inr rfl)))
    rintro e a3 W3 hp;cases e with
    |normal =>
     obtain⟨hk3,hi3⟩:=hp;obtain⟨hr,hl3,hl4,hd4⟩:=fin none W3 hk3;exact⟨_,_,hr,.inl ⟨rfl,⟨hI _ _ _ hi3 (hput W3 _ hl3),hl4,hd4⟩,hkeep W3 _ hk3⟩⟩
    |ret =>
     obtain⟨hk3,hi3⟩:=hp;obtain⟨hr,hl3,hl4,hd4⟩:=fin (some .ret) W3 hk3;exact⟨_,_,hr,.inr ⟨rfl,⟨.ret,hIx _ _ _ _ hi3 (hput W3 _ hl3),hl4,hd4⟩,hkeep W3 _ hk3⟩⟩
    |exit id =>
     obtain⟨hk3,hi3⟩:=hp;obtain⟨hr,hl3,hl4,hd4⟩:=fin (some (.exit id)) W3 hk3;exact⟨_,_,hr,.inr ⟨rfl,⟨.exit id,hIx _ _ _ _ hi3 (hput W3 _ hl3),hl4,hd4⟩,hkeep W3 _ hk3⟩⟩
    |goto t =>
     obtain⟨hk3,hi3⟩:=hp;obtain⟨hr,hl3,hl4,hd4⟩:=fin (some (.goto t)) W3 hk3;exact⟨_,_,hr,.inr ⟨rfl,⟨.goto t,hIx _ _ _ _ hi3 (hput W3 _ hl3),hl4,hd4⟩,hkeep W3 _ hk3⟩⟩
    |panic ch=>exact hp.elim
    |outgrown=>exact hp.elim
   |ret=>exact hp.elim
   |exit id=>exact hp.elim
   |goto t=>exact hp.elim
   |panic ch=>exact hp.elim
   |outgrown=>exact hp.elim
  ·
   rintro e W2 ⟨⟨v,rfl⟩,(⟨s,hm,hi,hl,hk⟩|⟨s,hm,c,hi,hl,hk⟩)⟩
   ·exact⟨none,_,by have:=run_endLoop (P:=P) hl (by rw[hrec];simp);rw[hrec]at this;exact this,
     hdone _ s _ (Nat.le_refl _) hm (hI _ _ _ hi (hput W2 _ (Array.getElem?_eq_some_iff.1 hl).1)) ((World.putObj_heap_other (by omega)).trans hk)⟩
   ·exact⟨some c,_,by have:=run_endLoop (P:=P) hl (by rw[hrec];simp);rw[hrec]at this;exact this,
     hstop _ c s _ (Nat.le_refl _) hm (hIx c _ _ _ hi (hput W2 _ (Array.getElem?_eq_some_iff.1 hl).1)) ((World.putObj_heap_other (by omega)).trans hk)⟩
end
section
open Go.RowKit
open M (OpD uj Gr)
def New(w w':World):Nat→Prop:=fun b=>w.heap.size≤b∧b<w'.heap.size
def Soft(w w':World):Prop:=∀b o,w.heap.size≤b→b<w'.heap.size→w'.frozen? ⟨b,o,none⟩=false
theorem Soft.trans{a b c:World}(h:Soft a b)(k:Soft b c)(hb:Below b.heap.size b c):Soft a c:=fun x o h1 h2=>by
 by_cases e:x<b.heap.size
 ·rw[hb.frozen (p:=⟨x,o,none⟩) e];exact h x o h1 e
 ·exact k x o (by omega) h2
theorem uiF(w:World)(c:Array Value)(t:TypeId):Soft w (w.alloc (.cells c t)):=fun b o h1 h2=>by
 simp at h2;obtain rfl:b=w.heap.size:=by omega
 have h:=World.alloc_heap_new w (.cells c t);simp only[World.frozen?,h];simp
theorem cN{W:World}{c:Array Value}{t:TypeId}{j:Nat}{v:Value}(y:Nat)(hy:W.heap.size=y)(h:c[j]? = some v):(W.alloc (.cells c t)).cell? ⟨y,j,none⟩=some v:=by
 subst hy;have e:=World.alloc_heap_new W (.cells c t);simp only[World.cell?,e];exact h
theorem Soft.set{w W:World}(h:Soft w W)(a:Addr)(v:Value):Soft w (W.setCell a v):=fun b o h1 h2=>by
 rw[World.frozen?_setCell];exact h b o h1 (by simpa[World.setCell] using h2)
theorem uiG{w W:World}(h:Below w.heap.size w W)(b o:Nat)(v:Value)(hb:w.heap.size≤b):Below w.heap.size w (W.setCell ⟨b,o,none⟩ v):=h.setCell (p:=⟨b,o,none⟩) hb v
theorem ul(W:World)(a:Addr)(v:Value):(W.setCell a v).heap.size=W.heap.size:=by simp[World.setCell]
theorem upX:(Tryz.prog.info? 5).map (fun i=>(i.zero,i.size,i.bytes))=some (some (.int .u8 0),1,1):=by kernel_rfl
theorem uoZ:(Tryz.prog.info? 3).map (fun i=>(i.zero,i.size,i.bytes))=some (some (.int .i64 0),1,8):=by kernel_rfl
theorem uo0:(Tryz.prog.info? 72).map (fun i=>(i.zero,i.size,i.bytes))=some (some (.agg #[.int .i64 0,.slice none 0 0,.int .i64 0]),3,40):=by kernel_rfl
theorem uaa{w:World}{b i:Nat}{v u:Value}(h:w.cell? ⟨b,i,none⟩=some u):(w.setCell ⟨b,i,none⟩ v).cell? ⟨b,i,none⟩=some v:=World.cell?_setCell_same' _ _ _ (by rw[h];rfl)
theorem ql{w:World}{b i j:Nat}{v:Value}(h:i≠j):(w.setCell ⟨b,i,none⟩ v).cell? ⟨b,j,none⟩=w.cell? ⟨b,j,none⟩:=World.cell?_setCell_other w _ _ v (fun e=>h (by injection e))
end
section
open Go.RowKit
open M (OpD uj Gr)
theorem uo1:(Tryz.prog.info? 39).map (fun i=>(i.zero,i.size,i.bytes))=some (some (.agg #[.slice none 0 0,.slice none 0 0]),2,48):=by kernel_rfl
theorem ulK:(Tryz.prog.info? 42).map (fun i=>(i.zero,i.size,i.bytes))=some (some (.agg #[.slice none 0 0,.bool false,.slice none 0 0]),3,56):=by kernel_rfl
theorem uo2(n:Nat)(hn:n≤1048576)(w:World):(Instr.makeSlice 24 (.int .i64 (n:Int)) (.int .i64 (n:Int))).run Tryz.prog w=.ok (.slice (some ⟨w.heap.size,0,none⟩) n n) (w.alloc (.cells (madeCells #[.slice none 0 0,.bool false,.slice none 0 0] (n*3)) 42)):=by
 obtain⟨i,hi,hzz⟩:=Option.map_eq_some_iff.1 ulK;simp only[Prod.mk.injEq]at hzz;obtain⟨hz,hs,hb⟩:=hzz;have hr:=run_make (P:=Tryz.prog) w 24 42 i _ Tryz.underlying24 hi hz .i64 .i64 n n (by omega) (Int.le_refl _) (by rw[hb];omega) (by omega)
 simp only[Int.toNat_natCast,hs]at hr;exact hr
end
section
open Go.RowKit Go.Deep
open M (OpD uj Gr uet EX ins)
theorem nne(n:Nat):((n:Int) != n)=false:=by simp
theorem ine(n:Int):(n != n)=false:=by simp
section
variable {H:Type} {enc:TypeId×Value→H} {w:World} {base:Nat} {spare:Nat→Bool} {held:Bool}
instance:Inhabited uet:=⟨ins 0 0 0⟩
end
def uou(k:Int):Nat→Int:=fun i=>k+i
end
section
open Go.RowKit
open M (OpD uj Gr uet)
def ua2(S:Nat→Int)(b:Int):Nat→Bool
 |0=>false
 |m+1=>ua2 S b m||(decide (S (2*m)≤b)&&decide (b≤S (2*m+1)))
def jI(n:Nat)(S:Nat→Int)(b:Int):Bool:=ua2 S b (n / 2)
end
end Go.Proofs.YthicmmhmmfhncaaGreat
