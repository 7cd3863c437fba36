import Derived.Test.YtcbnnfnlilbjeaaGreatT02
import Derived.Laws.BytesArg
import Derived.Lib.Bytealg
import Derived.Lib.BytesEntry
set_option linter.unusedVariables false
set_option linter.unusedSimpArgs false
namespace Go.Proofs.YtcbnnfnlilbjeaaGreat
section
open Go.RowKit
open M (OpD NodeD Gr)
def bodyI(w:World)(n nr nb:Nat)(B:Nat→OpD)(i:Value)(wr:World):Prop :=
 ∃k:Nat,k≤n∧i=.int .i64 (k:Int)∧Below w.heap.size w wr∧∀j,j<k→M.ElemOK nr nb (B j)
theorem body_shape(nr nb n:Nat)(B:Nat→OpD)(h:∀j,j<n→M.ElemOK nr nb (B j)):M.BodyOK nr nb n B↔M.Shape n B :=
 ⟨fun q=>q.2,fun q=>⟨h,q⟩⟩
set_option maxHeartbeats 4000000 in
theorem l2bodyOK_any(Q:Nat→Prop)(a:Option Addr)(nr nb n c:Nat)(B:Nat→OpD)(w:World)(hB:OpsA Q w a n B)(h1:nr≤1048576)(h2:nb≤1048576)(h3:SmallB n B) :
  Calls Tryz.prog 14 #[.slice a n c,.int .i64 nr,.int .i64 nb] w (SaysB (M.BodyOK nr nb n B) w):=by
 obtain⟨hn,hsl⟩:=h3;have HB:Hid (OpsA Q w a n B):=hB;have HSL:Hid (∀i,i<n→(B i).sl≤1048576):=hsl;clear hB hsl;go_enter Tryz.func14,Tryz.ntmps14;go_wp2;go_loopw [7] (fun i wr=>bodyI w n nr nb B i wr) (fun i _=>n-(intOf i).toNat)
 case atStart=>exact⟨0,Nat.zero_le _,rfl,Below.refl _ _,fun j hj=>absurd hj (Nat.not_lt_zero _)⟩
 case round =>
  obtain⟨k,hk,rfl,hbw,hall⟩:=hrel;have HA:Hid (∀j,j<k→M.ElemOK nr nb (B j)):=hall;clear hall;by_cases hlt:k<n
  ·have hB:=HB.out.later hbw
   rcases hB with h0 | ⟨b,off,rfl,hq,hB⟩
   ·omega
   obtain⟨c0,⟨sa,sc,c1,hs⟩,c2⟩:=hB k hlt;have hsl:=HSL.out k hlt;have hbl:b<wr.heap.size:=lt_of_cell c0;have HBW:Hid (Below w.heap.size w wr):=hbw;clear hB hbw;obtain⟨d,hd⟩:∃d,B k=d:=⟨_,rfl⟩;have HD:Hid (B k=d):=hd;rw[hd]at c0 c1 c2 hs hsl;clear hd;obtain⟨kd,sl,S,arg⟩:=d;simp only at c0 c1 c2 hs hsl;have HS:Hid (Ints Q .i64 wr sa sl S):=hs;clear hs;have good:M.ElemOK nr nb ⟨kd,sl,S,arg⟩→∀j,j<k+1→M.ElemOK nr nb (B j):=fun q j hj=>if e:j=k then e▸HD.out▸q else HA.out j (by omega)
   have bad:¬M.ElemOK nr nb ⟨kd,sl,S,arg⟩→¬M.BodyOK nr nb n B:=fun q p=>q (HD.out▸p.1 k hlt)
   have HG:Hid (M.ElemOK nr nb ⟨kd,sl,S,arg⟩→∀j,j<k+1→M.ElemOK nr nb (B j)):=good;have HN:Hid (¬M.ElemOK nr nb ⟨kd,sl,S,arg⟩→¬M.BodyOK nr nb n B):=bad;clear good bad;rcases elem_cases kd with rfl | rfl | rfl | hk' | hk'
   ·by_cases hc:M.Canon sl S
    ·have HC:Hid (M.Canon sl S):=hc
     clear hc;by_cases ha:arg<0
     ·go_wp2_with (go_at_call 36;refine (l2canon_any Q sa sl sc S _ (HS.out.later (bel1 wr _)) hsl).mono ?_;rintro e W ⟨⟨r,rfl,hr⟩,hb⟩;obtain rfl:r=true:=hr.2 HC.out;have g0:=(cell_on (a:=⟨wr.heap.size,0,none⟩) (v:=.int .i64 1) (by simp) hb);have g2:=(cell_on (a:=⟨wr.heap.size,2,none⟩) (v:=.int .i64 arg) (by simp) hb);have HW:Hid _:=hb;clear hr hb)
      go_ret;exact⟨⟨false,rfl,iffF (HN.out fun q=>by have:=((elem1 _ _ _ _ _).1 q).1;omega)⟩,bel_tr HBW.out (bel_tr (bel1 wr _) HW.out)⟩
     by_cases ha':1≤arg
     ·go_wp2_with (go_at_call 36;refine (l2canon_any Q sa sl sc S _ (HS.out.later (bel1 wr _)) hsl).mono ?_;rintro e W ⟨⟨r,rfl,hr⟩,hb⟩;obtain rfl:r=true:=hr.2 HC.out;have g0:=(cell_on (a:=⟨wr.heap.size,0,none⟩) (v:=.int .i64 1) (by simp) hb);have g2:=(cell_on (a:=⟨wr.heap.size,2,none⟩) (v:=.int .i64 arg) (by simp) hb);have HW:Hid _:=hb;clear hr hb)
      go_ret;exact⟨⟨false,rfl,iffF (HN.out fun q=>by have:=((elem1 _ _ _ _ _).1 q).1;omega)⟩,bel_tr HBW.out (bel_tr (bel1 wr _) HW.out)⟩
     go_wp2_with (go_at_call 36;refine (l2canon_any Q sa sl sc S _ (HS.out.later (bel1 wr _)) hsl).mono ?_;rintro e W ⟨⟨r,rfl,hr⟩,hb⟩;obtain rfl:r=true:=hr.2 HC.out;have g0:=(cell_on (a:=⟨wr.heap.size,0,none⟩) (v:=.int .i64 1) (by simp) hb);have g2:=(cell_on (a:=⟨wr.heap.size,2,none⟩) (v:=.int .i64 arg) (by simp) hb);have HW:Hid _:=hb;clear hr hb)
     go_roundw
     case rel=>exact⟨k+1,by omega,by go_num,bel_tr HBW.out (bel_tr (bel1 wr _) HW.out),HG.out ((elem1 _ _ _ _ _).2 ⟨by omega,HC.out⟩)⟩
     case measure=>simp[intOf];omega
    ·have HC:Hid (¬M.Canon sl S):=hc
     clear hc;go_wp2_with (go_at_call 36;refine (l2canon_any Q sa sl sc S _ (HS.out.later (bel1 wr _)) hsl).mono ?_;rintro e W ⟨⟨r,rfl,hr⟩,hb⟩;obtain rfl:r=false:=by { cases r;rfl;exact absurd (hr.1 rfl) HC.out };have HW:Hid _:=hb;clear hr hb)
     go_ret;exact⟨⟨false,rfl,iffF (HN.out fun q=>HC.out ((elem1 _ _ _ _ _).1 q).2)⟩,bel_tr HBW.out (bel_tr (bel1 wr _) HW.out)⟩
   ·by_cases hz:sl=0
    ·subst hz
     by_cases ha:arg<0
     ·go_wp2
      go_ret;exact⟨⟨false,rfl,iffF (HN.out fun q=>by have:=(elem2 _ _ _ _ _).1 q;omega)⟩,bel_tr HBW.out (bel1 wr _)⟩
     by_cases ha':(nr:Int)≤arg
     ·go_wp2
      go_ret;exact⟨⟨false,rfl,iffF (HN.out fun q=>by have:=(elem2 _ _ _ _ _).1 q;omega)⟩,bel_tr HBW.out (bel1 wr _)⟩
     go_wp2;go_roundw
     case rel=>exact⟨k+1,by omega,by go_num,bel_tr HBW.out (bel1 wr _),HG.out ((elem2 _ _ _ _ _).2 ⟨by omega,by omega,rfl⟩)⟩
     case measure=>simp[intOf];omega
    ·have hz':((sl:Int) != 0)=true:=by simp;omega
     go_wp2;go_ret;exact⟨⟨false,rfl,iffF (HN.out fun q=>by have:=(elem2 _ _ _ _ _).1 q;omega)⟩,bel_tr HBW.out (bel1 wr _)⟩
   ·by_cases hz:sl=0
    ·subst hz
     by_cases ha:arg<0
     ·go_wp2
      go_ret;exact⟨⟨false,rfl,iffF (HN.out fun q=>by have:=(elem3 _ _ _ _ _).1 q;omega)⟩,bel_tr HBW.out (bel1 wr _)⟩
     by_cases ha':(nb:Int)≤arg
     ·go_wp2
      go_ret;exact⟨⟨false,rfl,iffF (HN.out fun q=>by have:=(elem3 _ _ _ _ _).1 q;omega)⟩,bel_tr HBW.out (bel1 wr _)⟩
     go_wp2;go_roundw
     case rel=>exact⟨k+1,by omega,by go_num,bel_tr HBW.out (bel1 wr _),HG.out ((elem3 _ _ _ _ _).2 ⟨by omega,by omega,rfl⟩)⟩
     case measure=>simp[intOf];omega
    ·have hz':((sl:Int) != 0)=true:=by simp;omega
     go_wp2;go_ret;exact⟨⟨false,rfl,iffF (HN.out fun q=>by have:=(elem3 _ _ _ _ _).1 q;omega)⟩,bel_tr HBW.out (bel1 wr _)⟩
   ·rcases hk' with rfl | rfl | rfl | rfl | rfl
    all_goals (
     by_cases hz:sl=0
     ·subst hz
      by_cases ha:arg<0
      ·go_wp2
       go_ret;exact⟨⟨false,rfl,iffF (HN.out fun q=>by have:=(elem0 _ _ _ _ _ _ (by omega)).1 q;omega)⟩,bel_tr HBW.out (bel1 wr _)⟩
      by_cases ha':1≤arg
      ·go_wp2
       go_ret;exact⟨⟨false,rfl,iffF (HN.out fun q=>by have:=(elem0 _ _ _ _ _ _ (by omega)).1 q;omega)⟩,bel_tr HBW.out (bel1 wr _)⟩
      go_wp2;go_roundw
      case rel=>exact⟨k+1,by omega,by go_num,bel_tr HBW.out (bel1 wr _),HG.out ((elem0 _ _ _ _ _ _ (by omega)).2 ⟨by omega,rfl⟩)⟩
      case measure=>simp[intOf];omega
     ·have hz':((sl:Int) != 0)=true:=by simp;omega
      go_wp2;go_ret;exact⟨⟨false,rfl,iffF (HN.out fun q=>by have:=(elem0 _ _ _ _ _ _ (by omega)).1 q;omega)⟩,bel_tr HBW.out (bel1 wr _)⟩)
   ·have HK:Hid (kd<0∨7<kd):=hk'
    by_cases hlo:kd<0
    ·go_wp2
     go_ret;exact⟨⟨false,rfl,iffF (HN.out (elemx _ _ _ _ _ _ HK.out))⟩,bel_tr HBW.out (bel1 wr _)⟩
    ·have hhi:7<kd:=by omega
     go_wp2;go_ret;exact⟨⟨false,rfl,iffF (HN.out (elemx _ _ _ _ _ _ HK.out))⟩,bel_tr HBW.out (bel1 wr _)⟩
  ·obtain rfl:k=n:=by omega
   have hB:=HB.out.later hbw;have HBB:Hid (OpsA Q wr a k B):=hB;clear hB;go_wp2_with (go_at_call 37;refine (l2shape_any Q a k c B _ HBB.out hn).mono ?_;rintro e W ⟨⟨r,rfl,hr⟩,hw⟩;subst W;have HR:Hid _:=hr;clear hr);go_ret;exact⟨⟨_,rfl,HR.out.trans (body_shape nr nb _ B HA.out).symm⟩,hbw⟩
end
section
open Go.RowKit
open M (OpD NodeD Gr LessT)
def Byt(n:Nat)(T:Nat→Int):Prop:=∀i,i<n→0≤T i∧T i≤255
def u8s(n:Nat)(T:Nat→Int):List UInt8:=(List.range n).map fun i=>UInt8.ofNat (T i).toNat
def str(n:Nat)(T:Nat→Int):ByteArray:=strOfNums ((List.range n).map T)
theorem str_list(n:Nat)(T:Nat→Int):(str n T).toList=u8s n T:=by
 rw[ByteArray.toList_eq,str,strOfNums_data,u8s,List.map_map];rfl
theorem str_data(n:Nat)(T:Nat→Int):(str n T).data.toList=u8s n T:=by
 rw[str,strOfNums_data,u8s,List.map_map];rfl
theorem str_size(n:Nat)(T:Nat→Int):(str n T).size=n:=by rw[str,strOfNums_size];simp
theorem u8s_succ(n:Nat)(T:Nat→Int):u8s (n+1) T=UInt8.ofNat (T 0).toNat::u8s n (fun i=>T (i+1)):=by
 simp[u8s,List.range_succ_eq_map,Function.comp_def]
theorem u8_lt{x y:Int}(hx:0≤x∧x≤255)(hy:0≤y∧y≤255):UInt8.ofNat x.toNat<UInt8.ofNat y.toNat↔x<y:=by
 rw[UInt8.lt_iff_toNat_lt];simp only[UInt8.toNat_ofNat'];omega
theorem u8_eq{x y:Int}(hx:0≤x∧x≤255)(hy:0≤y∧y≤255):UInt8.ofNat x.toNat=UInt8.ofNat y.toNat↔x=y:=by
 rw[←UInt8.toNat_inj];simp only[UInt8.toNat_ofNat'];omega
theorem lessT_zero_right(n:Nat)(S T:Nat→Int):¬LessT n S 0 T:=by
 rintro⟨k,_,_,_,⟨_,h,_⟩|⟨_,h⟩⟩<;>omega
theorem lessT_zero_left(m:Nat)(S T:Nat→Int):LessT 0 S (m+1) T:=⟨0,fun i hi=>by omega,by omega,by omega,.inr ⟨rfl,by omega⟩⟩
theorem lessT_succ(n m:Nat)(S T:Nat→Int):LessT (n+1) S (m+1) T↔S 0<T 0∨(S 0=T 0∧LessT n (fun i=>S (i+1)) m (fun i=>T (i+1))):=by
 constructor
 ·rintro⟨k,he,h1,h2,h⟩
  by_cases hk:k=0
  ·subst hk
   rcases h with⟨_,_,h⟩|⟨h,_⟩
   ·exact .inl h
   ·omega
  ·obtain⟨q,rfl⟩:∃q,k=q+1:=⟨k-1,by omega⟩
   refine .inr ⟨he 0 (by omega),q,fun i hi=>he (i+1) (by omega),by omega,by omega,?_⟩
   rcases h with⟨a,b,h⟩|⟨a,b⟩
   ·exact .inl ⟨by omega,by omega,h⟩
   ·exact .inr ⟨by omega,by omega⟩
 ·rintro (h | ⟨h,q,he,h1,h2,h3⟩)
  ·exact⟨0,fun i hi=>by omega,by omega,by omega,.inl ⟨by omega,by omega,h⟩⟩
  ·refine⟨q+1,fun i hi=>?_,by omega,by omega,?_⟩
   ·by_cases e:i=0
    ·subst e;exact h
    ·obtain⟨j,rfl⟩:∃j,i=j+1:=⟨i-1,by omega⟩
     exact he j (by omega)
   ·rcases h3 with⟨a,b,h⟩|⟨a,b⟩
    ·exact .inl ⟨by omega,by omega,h⟩
    ·exact .inr ⟨by omega,by omega⟩
theorem less_iff:∀(n m:Nat) (S T:Nat→Int),Byt n S→Byt m T→(Op.bytesLess (u8s n S) (u8s m T)=true↔LessT n S m T)
 |n,0,S,T,_,_=>by
  have:u8s 0 T = []:=rfl;rw[this];cases u8s n S<;>simp[Op.bytesLess,lessT_zero_right]
 |0,m+1,S,T,_,_=>by
  rw[u8s_succ];have:u8s 0 S = []:=rfl;rw[this];simp[Op.bytesLess,lessT_zero_left]
 |n+1,m+1,S,T,hS,hT=>by
  have ih:=less_iff n m (fun i=>S (i+1)) (fun i=>T (i+1)) (fun i hi=>hS (i+1) (by omega)) (fun i hi=>hT (i+1) (by omega))
  rw[u8s_succ,u8s_succ,Op.bytesLess,lessT_succ,←ih];simp only[Bool.or_eq_true,Bool.and_eq_true,decide_eq_true_eq,beq_iff_eq];rw[u8_lt (hS 0 (by omega)) (hT 0 (by omega)),u8_eq (hS 0 (by omega)) (hT 0 (by omega))]
theorem cmp_less:∀(xs ys:List UInt8),-1≤Lib.compareBytes xs ys∧Lib.compareBytes xs ys≤1∧(Lib.compareBytes xs ys<0↔Op.bytesLess xs ys=true)
 | [],[]=>by simp[Lib.compareBytes,Op.bytesLess]
 | [],_::_=>by simp[Lib.compareBytes,Op.bytesLess]
 |_::_,[]=>by simp[Lib.compareBytes,Op.bytesLess]
 |a::x,b::y=>by
  obtain⟨h1,h2,h3⟩:=cmp_less x y;rw[Lib.compareBytes,Op.bytesLess];by_cases e:a<b
  ·simp[e]
  ·by_cases e2:b<a
   ·have hne:¬a=b:=fun q=>e (by rw[q]at e2 ⊢;exact e2)
    simp[e,e2,hne]
   ·have hab:a=b:=UInt8.le_antisymm (UInt8.not_lt.1 e2) (UInt8.not_lt.1 e)
    subst hab;simp[e];exact⟨h1,h2,h3⟩
theorem u8s_eq:∀(n m:Nat) (S T:Nat→Int),Byt n S→Byt m T→(u8s n S=u8s m T↔n=m∧∀i,i<n→S i=T i)
 |0,0,S,T,_,_=>⟨fun _=>⟨rfl,fun i hi=>by omega⟩,fun _=>rfl⟩
 |0,m+1,S,T,_,_=>by
  rw[u8s_succ];exact⟨fun h=>absurd h (by simp[u8s]),fun h=>by omega⟩
 |n+1,0,S,T,_,_=>by
  rw[u8s_succ];exact⟨fun h=>absurd h (by simp[u8s]),fun h=>by omega⟩
 |n+1,m+1,S,T,hS,hT=>by
  have ih:=u8s_eq n m (fun i=>S (i+1)) (fun i=>T (i+1)) (fun i hi=>hS (i+1) (by omega)) (fun i hi=>hT (i+1) (by omega))
  rw[u8s_succ,u8s_succ,List.cons.injEq,ih,u8_eq (hS 0 (by omega)) (hT 0 (by omega))]
  constructor
  ·rintro⟨h0,h1,h2⟩
   refine⟨by omega,fun i hi=>?_⟩
   by_cases e:i=0
   ·subst e;exact h0
   ·obtain⟨j,rfl⟩:∃j,i=j+1:=⟨i-1,by omega⟩
    exact h2 j (by omega)
  ·rintro⟨h1,h2⟩
   exact⟨h2 0 (by omega),by omega,fun i hi=>h2 (i+1) (by omega)⟩
theorem run_load0(w:World)(x:Addr):(loadCells x 0).run Tryz.prog w=.ok #[] w:=by
 have:=run_loadCells_list (P:=Tryz.prog) w x [] (fun j v h=>by simp at h)
 simpa using this
theorem conv_run(Q:Nat→Prop)(a:Option Addr)(n c:Nat)(T:Nat→Int)(w:World)(h:Ints Q .u8 w a n T):(convert 22 9 (.slice a n c)).run Tryz.prog w=.ok (.string (str n T)) w:=by
 by_cases h0:n=0
 ·subst h0
  cases a with
  |none=>exact run_convert_bytes_nil w 22 5 Tryz.underlying22 Tryz.underlying5 0 c 9 Tryz.underlying9
  |some x =>
   rw[run_convert_bytes_string w 22 9 5 _ 0 c Tryz.underlying22 Tryz.underlying5 Tryz.underlying9,run_bytesToString w x 0 c [] (by simpa using run_load0 w x)]
   rfl
 ·rcases h with h | ⟨b,off,rfl,hq,h⟩
  ·omega
  ·exact run_convert_bytes_arg w 22 5 Tryz.underlying22 Tryz.underlying5 b off n c ((List.range n).map T) (by simp) (fun i hi=>by rw[h i hi];simp[hi]) 9 Tryz.underlying9
set_option maxHeartbeats 1000000 in
theorem l2less_any(Q:Nat→Prop)(a a':Option Addr)(n c m c':Nat)(S T:Nat→Int)(w:World)(hS:Ints Q .u8 w a n S)(hT:Ints Q .u8 w a' m T)(bS:Byt n S)(bT:Byt m T) :
  Calls Tryz.prog 15 #[.slice a n c,.slice a' m c'] w (Says (LessT n S m T) w):=by
 have r1:=conv_run Q a n c S w hS;have r2:=conv_run Q a' m c' T w hT;have HL:Hid (Op.bytesLess (u8s n S) (u8s m T)=true↔LessT n S m T):=less_iff n m S T bS bT;have HS1:Hid ((str n S).toList=u8s n S):=str_list n S;have HS2:Hid ((str m T).toList=u8s m T):=str_list m T;clear hS hT bS bT;generalize str n S=s1 at *;generalize str m T=s2 at *;go_enter Tryz.func15,Tryz.ntmps15;go_wp2;go_ret;exact⟨⟨_,rfl,by rw[HS1.out,HS2.out];exact HL.out⟩,rfl⟩
theorem run_bytesOf(Q:Nat→Prop)(a:Option Addr)(n c:Nat)(T:Nat→Int)(w:World)(h:Ints Q .u8 w a n T):(Extern.Bytes.bytesOf (.slice a n c)).run Tryz.prog w=.ok (str n T) w:=by
 have hcat:(⟨ByteArray.empty.data++(Lib.bytesOf ((List.range n).map T)).toArray⟩:ByteArray)=str n T:=by
  apply ByteArray.ext
  show (#[]:Array UInt8)++(Lib.bytesOf ((List.range n).map T)).toArray=_;simp[Lib.bytesOf,str,strOfNums]
 by_cases h0:n=0
 ·subst h0
  cases a with
  |none=>rfl
  |some x =>
   have:=Lib.run_loadBytesX (P:=Tryz.prog) w [] x .empty (fun j y h=>by simp at h)
   exact this
 ·rcases h with h | ⟨b,off,rfl,hq,h⟩
  ·omega
  ·have hl:=Lib.run_loadBytesX (P:=Tryz.prog) w ((List.range n).map T) ⟨b,off,none⟩ .empty (fun j x hj=>by
    have hjl:j<n:=by simpa using (List.getElem?_eq_some_iff.1 hj).1
    have e:(⟨b,off,none⟩:Addr).add j=⟨b,off+j,none⟩:=by unfold Addr.add;split<;>simp_all
    rw[e,h j hjl];simp[hjl]at hj;rw[hj])
   rw[hcat,show ((List.range n).map T).length=n by simp]at hl
   exact hl
theorem run_compare(Q:Nat→Prop)(a a':Option Addr)(n c m c':Nat)(S T:Nat→Int)(w:World)(hS:Ints Q .u8 w a n S)(hT:Ints Q .u8 w a' m T) :
  (Extern.BytealgCompare.compare #[.slice a n c,.slice a' m c']).run Tryz.prog w=.ok (.int .i64 (Lib.compareBytes (u8s n S) (u8s m T))) w:=by
 change Sem.run Tryz.prog (do pure (goInt (Extern.BytealgCompare.cmp (←Extern.Bytes.bytesOf (.slice a n c)) (←Extern.Bytes.bytesOf (.slice a' m c'))))) w=_;simp only[Sem.run_bind,run_bytesOf Q a n c S w hS,run_bytesOf Q a' m c' T w hT,Sem.run_pure,Result.andThen];rw[Lib.cmp_eq,str_data,str_data];rfl
set_option maxHeartbeats 1000000 in
set_option maxRecDepth 100000 in
theorem compare_val(n m:Nat)(S T:Nat→Int)(bS:Byt n S)(bT:Byt m T):∃r:Int,-1≤r∧r≤1∧(r<0↔LessT n S m T) ∧
  ∀(Q:Nat→Prop) (a a':Option Addr) (c c':Nat) (w:World),Ints Q .u8 w a n S→Ints Q .u8 w a' m T→Calls Tryz.prog 75 #[.slice a n c,.slice a' m c'] w fun e w'=>e=.returned (.int .i64 r)∧w'=w:=by
 obtain⟨h1,h2,h3⟩:=cmp_less (u8s n S) (u8s m T);refine⟨_,h1,h2,h3.trans (less_iff n m S T bS bT),fun Q a a' c c' w hS hT=>?_⟩
 have HR:Hid ((Extern.BytealgCompare.compare #[.slice a n c,.slice a' m c']).run Tryz.prog w=.ok (.int .i64 (Lib.compareBytes (u8s n S) (u8s m T))) w):=run_compare Q a a' n c m c' S T w hS hT;clear hS hT bS bT h1 h2 h3;go_enter Tryz.func75,Tryz.ntmps75;go_wp2;rw[run_callFunc_extern Tryz.func99 (by kernel_rfl) (by kernel_rfl) (by kernel_rfl) (e:=Extern.BytealgCompare.compare) (by kernel_rfl),HR.out]
 simp only[Result.andThen];rw[Oper.upon_value];go_wp2;go_ret;exact⟨rfl,rfl⟩
end
section
open Go.RowKit
open M (OpD NodeD Gr)
structure SmallN(d:NodeD):Prop where
 name:d.nl≤1048576
 byt:Byt d.nl d.name
 body:SmallB d.bl d.body
structure GramA(Q:Nat→Prop)(w:World)(ra la:Option Addr)(g:Gr):Prop where
 rules:RulesA Q w ra g.nr g.rule
 labs:LabsA Q w la g.nb g.lab
structure SmallG(g:Gr):Prop where
 nr:g.nr≤1048576
 nb:g.nb≤1048576
 rule:∀i,i<g.nr→SmallN (g.rule i)
 lab:∀i,i<g.nb→SmallN (g.lab i)
theorem GramA.later{Q:Nat→Prop}{w w':World}{ra la:Option Addr}{g:Gr}(h:GramA Q w ra la g)(t:Below w.heap.size w w'):GramA Q w' ra la g :=
 ⟨h.rules.later t,h.labs.later t⟩
def BodiesOK(g:Gr):Prop:=(∀i,i<g.nr→M.BodyOK g.nr g.nb (g.rule i).bl (g.rule i).body) ∧
 (∀i,i<g.nb→((g.lab i).has=true→M.BodyOK g.nr g.nb (g.lab i).bl (g.lab i).body)∧((g.lab i).has=false→(g.lab i).bl=0))
def rulesI(W1:World)(n:Nat)(p:Nat→Prop)(i:Value)(wr:World):Prop :=
 ∃k:Nat,k≤n∧i=.int .i64 (k:Int)∧Below W1.heap.size W1 wr∧∀j,j<k→p j
theorem all_snoc{p:Nat→Prop}{k:Nat}(h:∀j,j<k→p j)(hk:p k):∀j,j<k+1→p j:=fun j hj =>
 if e:j=k then e▸hk else h j (by omega)
set_option maxHeartbeats 4000000 in
theorem validBodies_any(Q:Nat→Prop)(ra la:Option Addr)(rc lc:Nat)(g:Gr)(w:World)(hG:GramA Q w ra la g)(hs:SmallG g) :
  Calls Tryz.prog 48 #[.agg #[.slice ra g.nr rc,.slice la g.nb lc]] w (SaysB (BodiesOK g) w):=by
 obtain⟨nr,R,nb,L⟩:=g;obtain⟨hR,hL⟩:=hG;obtain⟨h1,h2,s1,s2⟩:=hs;simp only at hR hL h1 h2 s1 s2 ⊢;have HR:Hid (RulesA Q w ra nr R):=hR;have HL:Hid (LabsA Q w la nb L):=hL;have S1:Hid (∀i,i<nr→SmallN (R i)):=s1;have S2:Hid (∀i,i<nb→SmallN (L i)):=s2;clear hR hL s1 s2;go_enter Tryz.func48,Tryz.ntmps48;go_wp2;go_loopw [10] (fun i wr=>rulesI (w.alloc (.cells #[.slice ra nr rc,.slice la nb lc] 26)) nr (fun j=>M.BodyOK nr nb (R j).bl (R j).body) i wr) (fun i _=>nr-(intOf i).toNat)
 case atStart=>exact⟨0,Nat.zero_le _,rfl,Below.refl _ _,fun j hj=>absurd hj (Nat.not_lt_zero _)⟩
 case round =>
  obtain⟨k,hk,rfl,hbel,hall⟩:=hrel;have HA:Hid (∀j,j<k→M.BodyOK nr nb (R j).bl (R j).body):=hall;clear hall;have hbw:Below w.heap.size w wr:=bel_tr (bel1 w _) hbel;have g0:wr.cell? ⟨w.heap.size,0,none⟩=some (.slice ra nr rc):=cell_on (by simp) hbel
  have g1:wr.cell? ⟨w.heap.size,1,none⟩=some (.slice la nb lc):=cell_on (by simp) hbel
  have hsz:w.heap.size<wr.heap.size:=by have:=hbel.size;simp at this;omega
  by_cases hlt:k<nr
  ·have hR:=HR.out.later hbw
   rcases hR with h0 | ⟨b,off,rfl,hq,hR⟩
   ·omega
   obtain⟨⟨na,nc,c0,hn⟩,⟨ba,bc,c1,hb⟩⟩:=hR k hlt;have hbl:b<wr.heap.size:=lt_of_cell c0;have HBW:Hid (Below w.heap.size w wr):=hbw;have HBE:Hid (Below (w.alloc (.cells #[.slice (some ⟨b,off,none⟩) nr rc,.slice la nb lc] 26)).heap.size (w.alloc (.cells #[.slice (some ⟨b,off,none⟩) nr rc,.slice la nb lc] 26)) wr):=hbel;have HO:Hid (OpsA Q wr ba (R k).bl (R k).body):=hb;have SB:Hid (SmallB (R k).bl (R k).body):=(S1.out k hlt).body;clear hR hbw hbel hn hb;by_cases he:M.BodyOK nr nb (R k).bl (R k).body
   ·have HE:Hid (M.BodyOK nr nb (R k).bl (R k).body):=he
    clear he;go_wp2_with (go_at_call 76;refine (isExpression_any Q (some ⟨b,off,none⟩) la ba nr rc nb lc (R k).bl bc (R k).body _ (HO.out.later (bel1 wr _)) h1 h2 SB.out).mono ?_;rintro e W ⟨⟨r,rfl,hr⟩,hb⟩;obtain rfl:r=true:=hr.2 HE.out;have HW:Hid _:=hb;clear hr hb);go_roundw
    case rel=>exact⟨k+1,by omega,by go_num,bel_tr HBE.out (bel_tr (bel1 wr _) HW.out),all_snoc HA.out HE.out⟩
    case measure=>simp[intOf];omega
   ·have HE:Hid (¬M.BodyOK nr nb (R k).bl (R k).body):=he
    clear he;go_wp2_with (go_at_call 76;refine (isExpression_any Q (some ⟨b,off,none⟩) la ba nr rc nb lc (R k).bl bc (R k).body _ (HO.out.later (bel1 wr _)) h1 h2 SB.out).mono ?_;rintro e W ⟨⟨r,rfl,hr⟩,hb⟩;obtain rfl:r=false:=by { cases r;rfl;exact absurd (hr.1 rfl) HE.out };have HW:Hid _:=hb;clear hr hb)
    go_ret;exact⟨⟨false,rfl,iffF fun q=>HE.out (q.1 k hlt)⟩,bel_tr HBW.out (bel_tr (bel1 wr _) HW.out)⟩
  ·obtain rfl:k=nr:=by omega
   obtain⟨W1,eW⟩:∃W1,wr=W1:=⟨_,rfl⟩;subst wr;have HBW:Hid (Below w.heap.size w W1):=hbw;have HL':Hid (LabsA Q W1 la nb L):=HL.out.later hbw;clear hbel hbw HL;go_wp2;go_loopw [23] (fun i wr'=>rulesI W1 nb (fun j=>((L j).has=true→M.BodyOK k nb (L j).bl (L j).body)∧((L j).has=false→(L j).bl=0)) i wr') (fun i _=>nb-(intOf i).toNat)
   case atStart=>exact⟨0,Nat.zero_le _,rfl,Below.refl _ _,fun j hj=>absurd hj (Nat.not_lt_zero _)⟩
   case round =>
    obtain⟨m,hm,rfl,hbel,hall⟩:=hrel;have HM:Hid (∀j,j<m→((L j).has=true→M.BodyOK k nb (L j).bl (L j).body)∧((L j).has=false→(L j).bl=0)):=hall;clear hall;have HBE:Hid (Below W1.heap.size W1 wr):=hbel;have HBX:Hid (Below w.heap.size w wr):=bel_tr HBW.out hbel;have e0:wr.cell? ⟨w.heap.size,0,none⟩=some (.slice ra k rc):=cell_on g0 hbel;have e1:wr.cell? ⟨w.heap.size,1,none⟩=some (.slice la nb lc):=cell_on g1 hbel;have esz:w.heap.size<wr.heap.size:=Nat.lt_of_lt_of_le hsz hbel.size;clear g0 g1 hsz;by_cases hlt:m<nb
    ·have hL:=HL'.out.later hbel
     rcases hL with h0 | ⟨b,off,rfl,hq,hL⟩
     ·omega
     obtain⟨⟨na,nc,c0,hn⟩,c1,⟨ba,bc,c2,hb⟩⟩:=hL m hlt;have hbl:b<wr.heap.size:=lt_of_cell c0;have HO:Hid (OpsA Q wr ba (L m).bl (L m).body):=hb;have SB:Hid (SmallB (L m).bl (L m).body):=(S2.out m hlt).body;have hbs:=SB.out.1;clear hL hbel hn hb;by_cases hh:(L m).has=true
     ·have HH:Hid ((L m).has=true):=hh
      rw[hh]at c1;clear hh;by_cases he:M.BodyOK k nb (L m).bl (L m).body
      ·have HE:Hid (M.BodyOK k nb (L m).bl (L m).body):=he
       clear he;go_wp2_with (go_at_call 76;refine (isExpression_any Q ra (some ⟨b,off,none⟩) ba k rc nb lc (L m).bl bc (L m).body _ (HO.out.later (bel1 wr _)) h1 h2 SB.out).mono ?_;rintro e W ⟨⟨r,rfl,hr⟩,hb⟩;obtain rfl:r=true:=hr.2 HE.out;have x1:=(cell_on (a:=⟨wr.heap.size,1,none⟩) (v:=.bool true) (by simp) hb);have HW:Hid _:=hb;clear hr hb)
       go_roundw
       case rel=>exact⟨m+1,by omega,by go_num,bel_tr HBE.out (bel_tr (bel1 wr _) HW.out),all_snoc HM.out ⟨fun _=>HE.out,fun q=>absurd (HH.out.symm.trans q) (by decide)⟩⟩
       case measure=>simp[intOf];omega
      ·have HE:Hid (¬M.BodyOK k nb (L m).bl (L m).body):=he
       clear he;go_wp2_with (go_at_call 76;refine (isExpression_any Q ra (some ⟨b,off,none⟩) ba k rc nb lc (L m).bl bc (L m).body _ (HO.out.later (bel1 wr _)) h1 h2 SB.out).mono ?_;rintro e W ⟨⟨r,rfl,hr⟩,hb⟩;obtain rfl:r=false:=by { cases r;rfl;exact absurd (hr.1 rfl) HE.out };have HW:Hid _:=hb;clear hr hb)
       go_ret;exact⟨⟨false,rfl,iffF fun q=>HE.out ((q.2 m hlt).1 HH.out)⟩,bel_tr HBX.out (bel_tr (bel1 wr _) HW.out)⟩
     ·have hh':(L m).has=false:=by simpa using hh
      have HH:Hid ((L m).has=false):=hh';rw[hh']at c1;clear hh hh';by_cases hz:(L m).bl=0
      ·have HZ:Hid ((L m).bl=0):=hz
       have fz:¬(0:Int)<((L m).bl:Int):=by omega
       clear hz;go_wp2;go_roundw
       case rel=>exact⟨m+1,by omega,by go_num,bel_tr HBE.out (bel1 wr _),all_snoc HM.out ⟨fun q=>absurd (HH.out.symm.trans q) (by decide),fun _=>HZ.out⟩⟩
       case measure=>simp[intOf];omega
      ·have HZ:Hid (¬(L m).bl=0):=hz
       have fz:(0:Int)<((L m).bl:Int):=by omega
       clear hz;go_wp2;go_ret;exact⟨⟨false,rfl,iffF fun q=>HZ.out ((q.2 m hlt).2 HH.out)⟩,bel_tr HBX.out (bel1 wr _)⟩
    ·obtain rfl:m=nb:=by omega
     go_wp2;go_ret;exact⟨⟨true,rfl,iffT ⟨HA.out,HM.out⟩⟩,HBX.out⟩
end
end Go.Proofs.YtcbnnfnlilbjeaaGreat
