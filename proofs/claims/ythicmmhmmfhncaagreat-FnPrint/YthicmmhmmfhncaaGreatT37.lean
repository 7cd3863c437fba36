import Derived.Test.YthicmmhmmfhncaaGreatT01
import Derived.Test.YthicmmhmmfhncaaGreatT36
import Derived.Maps.Own
import Derived.Maps.OwnOps
import Derived.Maps.OwnSet
import Derived.Maps.Views
import Derived.OwnWalk
import Derived.StringKeys
set_option linter.unusedVariables false
set_option linter.unusedSimpArgs false
namespace Go.Proofs.YthicmmhmmfhncaaGreat
section
open Go.RowKit
set_option maxHeartbeats 1000000 in
theorem jX(Q:Nat→Prop)(a:Option Addr)(n c:Nat)(T:Nat→Int)(w:World)(hT:Ints Q .u8 w a n T)(hb:∀i,i<n→0≤T i∧T i≤255)(hn:n≤1048576) :
  Calls Tryz.prog 77 #[.slice a n c] w (Says (M.NameB n T) w):=by
 go_enter Tryz.func77,Tryz.ntmps77;go_wp2;go_loopw [7] (fun i wr=>∃k:Nat,k≤n∧i=.int .i64 k∧wr=w∧∀j,j<k→M.Letter (T j)∨M.Digit (T j)) (fun i _=>n-(intOf i).toNat)
 case atStart=>exact⟨0,Nat.zero_le _,rfl,rfl,fun j hj=>absurd hj (Nat.not_lt_zero _)⟩
 case round =>
  obtain⟨k,hk,rfl,rfl,hall⟩:=hrel;have HA:Hid (∀j,j<k→M.Letter (T j)∨M.Digit (T j)):=hall;clear hall;by_cases hlt:k<n
  ·rcases hT with h0 | ⟨b,off,rfl,hq,hT⟩
   ·omega
   have hc1:=hT k hlt;obtain⟨x0,x1⟩:=hb k hlt;by_cases hl:M.Letter (T k)∨M.Digit (T k)
   ·have HL:Hid (M.Letter (T k)∨M.Digit (T k)):=hl
    clear hl;go_wp2_with (go_at_call 90;refine (yw (T k) _ x0 x1).mono ?_;rintro e W ⟨⟨r,rfl,hr⟩,hw⟩;subst W;obtain rfl:r=true:=hr.2 HL.out;clear hr);go_roundw
    case rel=>exact⟨k+1,by omega,by go_num,by trivial,fun j hj=>if e:j=k then e▸HL.out else HA.out j (by omega)⟩
    case measure=>simp[intOf];omega
   ·have HL:Hid (¬(M.Letter (T k)∨M.Digit (T k))):=hl
    clear hl;go_wp2_with (go_at_call 90;refine (yw (T k) _ x0 x1).mono ?_;rintro e W ⟨⟨r,rfl,hr⟩,hw⟩;subst W;obtain rfl:r=false:=by { cases r;rfl;exact absurd (hr.1 rfl) HL.out };clear hr)
    go_ret;exact⟨⟨false,rfl,uR fun q=>HL.out (q.1 k hlt)⟩,rfl⟩
  ·obtain rfl:k=n:=by omega
   by_cases h0:k=0
   ·subst h0
    go_wp2;go_ret;exact⟨⟨false,rfl,uR fun q=>by have:=q.2.1;omega⟩,rfl⟩
   ·rcases hT with h0' | ⟨b,off,rfl,hq,hT⟩
    ·omega
    have hc1:=hT 0 (by omega)
    rw[Nat.add_zero]at hc1;obtain⟨x0,x1⟩:=hb 0 (by omega)
    have hpos:(0:Int)<(k:Int):=by omega
    go_wp2_with (go_at_call 89;refine (xt (T 0) _ x0 x1).mono ?_;rintro e W ⟨⟨r,rfl,hr⟩,hw⟩;subst W;have HR:Hid _:=hr;clear hr);go_ret;exact⟨⟨_,rfl,HR.out.trans ⟨fun q=>⟨HA.out,by omega,q⟩,fun q=>q.2.2⟩⟩,rfl⟩
theorem uh6(n:Nat)(T:Nat→Int)(h0:0<n)(h1:n≤32)(h2:M.Letter (T 0)):M.NameOK n T↔∀i,i<n→M.Letter (T i)∨M.Digit (T i) :=
 ⟨fun q=>q.2.1,fun q=>⟨h1,q,h0,h2⟩⟩
set_option maxHeartbeats 1000000 in
theorem kL(Q:Nat→Prop)(a:Option Addr)(n c:Nat)(T:Nat→Int)(w:World)(hT:Ints Q .u8 w a n T)(hb:∀i,i<n→0≤T i∧T i≤255)(hn:n≤1048576) :
  Calls Tryz.prog 12 #[.slice a n c] w (Says (M.NameOK n T) w):=by
 by_cases h0:n=0
 ·subst h0
  go_enter Tryz.func12,Tryz.ntmps12;go_wp2;go_ret;exact⟨⟨false,rfl,uR fun q=>by have:=q.2.2.1;omega⟩,rfl⟩
 have t1:¬(n:Int)<1:=by omega
 by_cases h32:32<n
 ·have t2:(32:Int)<n:=by omega
  go_enter Tryz.func12,Tryz.ntmps12;go_wp2;go_ret;exact⟨⟨false,rfl,uR fun q=>by have:=q.1;omega⟩,rfl⟩
 have t2:¬(32:Int)<n:=by omega
 rcases hT with h0' | ⟨b,off,rfl,hq,hT⟩
 ·omega
 have hc0:=hT 0 (by omega)
 rw[Nat.add_zero]at hc0;obtain⟨y0,y1⟩:=hb 0 (by omega)
 have hpos:(0:Int)<(n:Int):=by omega
 rcases Classical.em (¬M.Letter (T 0)) with hl0 | hl0
 ·have HL:Hid (¬M.Letter (T 0)):=hl0
  clear hl0;go_enter Tryz.func12,Tryz.ntmps12;go_wp2_with (go_at_call 32;refine (xu (T 0) _ y0 y1).mono ?_;rintro e W ⟨⟨r,rfl,hr⟩,hw⟩;subst W;obtain rfl:r=false:=by { cases r;rfl;exact absurd (hr.1 rfl) HL.out };clear hr)
  go_ret;exact⟨⟨false,rfl,uR fun q=>HL.out q.2.2.2⟩,rfl⟩
 have HL0:Hid (M.Letter (T 0)):=Classical.not_not.1 hl0;clear hl0;go_enter Tryz.func12,Tryz.ntmps12;go_wp2_with (go_at_call 32;refine (xu (T 0) _ y0 y1).mono ?_;rintro e W ⟨⟨r,rfl,hr⟩,hw⟩;subst W;obtain rfl:r=true:=hr.2 HL0.out;clear hr);go_loopw [3] (fun i wr=>∃k:Nat,k≤n∧i=.int .i64 k∧wr=w∧∀j,j<k→M.Letter (T j)∨M.Digit (T j)) (fun i _=>n-(intOf i).toNat)
 case atStart=>exact⟨0,Nat.zero_le _,rfl,rfl,fun j hj=>absurd hj (Nat.not_lt_zero _)⟩
 case round =>
  obtain⟨k,hk,rfl,rfl,hall⟩:=hrel;have HA:Hid (∀j,j<k→M.Letter (T j)∨M.Digit (T j)):=hall;clear hall;by_cases hlt:k<n
  ·have hc1:=hT k hlt
   obtain⟨x0,x1⟩:=hb k hlt;by_cases hl:M.Letter (T k)
   ·have HL:Hid (M.Letter (T k)):=hl
    clear hl;go_wp2_with (go_at_call 32;refine (xu (T k) _ x0 x1).mono ?_;rintro e W ⟨⟨r,rfl,hr⟩,hw⟩;subst W;obtain rfl:r=true:=hr.2 HL.out;clear hr);go_roundw
    case rel=>exact⟨k+1,by omega,by go_num,by trivial,fun j hj=>if e:j=k then e▸.inl HL.out else HA.out j (by omega)⟩
    case measure=>simp[intOf];omega
   have HL:Hid (¬M.Letter (T k)):=hl;clear hl;by_cases hd:M.Digit (T k)
   ·have HD:Hid (M.Digit (T k)):=hd
    clear hd;go_wp2_with (first|(go_at_call 32;refine (xu (T k) _ x0 x1).mono ?_;rintro e W ⟨⟨r,rfl,hr⟩,hw⟩;subst W;obtain rfl:r=false:=by { cases r;rfl;exact absurd (hr.1 rfl) HL.out };clear hr)|(go_at_call 33;refine (ucN (T k) _ x0 x1).mono ?_;rintro e W ⟨⟨r,rfl,hr⟩,hw⟩;subst W;obtain rfl:r=true:=hr.2 HD.out;clear hr))
    go_roundw
    case rel=>exact⟨k+1,by omega,by go_num,by trivial,fun j hj=>if e:j=k then e▸.inr HD.out else HA.out j (by omega)⟩
    case measure=>simp[intOf];omega
   ·have HD:Hid (¬M.Digit (T k)):=hd
    clear hd;go_wp2_with (first|(go_at_call 32;refine (xu (T k) _ x0 x1).mono ?_;rintro e W ⟨⟨r,rfl,hr⟩,hw⟩;subst W;obtain rfl:r=false:=by { cases r;rfl;exact absurd (hr.1 rfl) HL.out };clear hr)|(go_at_call 33;refine (ucN (T k) _ x0 x1).mono ?_;rintro e W ⟨⟨r,rfl,hr⟩,hw⟩;subst W;obtain rfl:r=false:=by { cases r;rfl;exact absurd (hr.1 rfl) HD.out };clear hr))
    go_ret;exact⟨⟨false,rfl,uR fun q=>(q.2.1 k hlt).elim HL.out HD.out⟩,rfl⟩
  ·obtain rfl:k=n:=by omega
   go_wp2;go_ret;exact⟨⟨true,rfl,yN ((uh6 _ _ (by omega) (by omega) HL0.out).2 HA.out)⟩,rfl⟩
end
section
open Go.RowKit Go.Maps
open M (OpD uj Gr)
theorem unR:Keyed Tryz.prog 9:=string_keyed Tryz.underlying9
theorem zero3(w:World):(zeroValue 3).run Tryz.prog w=.ok (.int .i64 0) w:=by kernel_rfl
def qO(g:Gr):Prop :=
 (∀i,i<g.nr→M.NameB (g.rule i).nl (g.rule i).name∧∀j,j<i→¬M.SameName (g.rule i) (g.rule j)) ∧
 (∀i,i<g.nb→M.NameB (g.lab i).nl (g.lab i).name∧(0<i→M.LessName (g.lab (i-1)) (g.lab i)))
def HasNames(D:DataW Unit)(R:Nat→uj)(k:Nat):Prop:=∀l:List UInt8,(Maps.has D (.string l)=true↔∃j,j<k∧u8s (R j).nl (R j).name=l)
theorem HasNames.start(R:Nat→uj):HasNames (.map []) R 0:=fun l=>⟨fun h=>by simp[Maps.has]at h,fun ⟨j,hj,_⟩=>absurd hj (Nat.not_lt_zero _)⟩
theorem HasNames.step{D:DataW Unit}{R:Nat→uj}{k:Nat}(h:HasNames D R k)(hD:IsMap D)(d:DataW Unit):HasNames (D.put (.string (u8s (R k).nl (R k).name)) d) R (k+1):=fun l=>by
 by_cases e:u8s (R k).nl (R k).name=l
 ·subst e
  rw[has_put_same hD (by trivial)]
  exact⟨fun _=>⟨k,by omega,rfl⟩,fun _=>rfl⟩
 ·rw[has_put_other (by intro q;injection q with q;exact e q.symm),h l]
  constructor
  ·rintro⟨j,hj,q⟩;exact⟨j,by omega,q⟩
  ·rintro⟨j,hj,q⟩
   refine⟨j,?_,q⟩;by_cases ej:j=k
   ·subst ej;exact absurd q e
   ·omega
theorem ud1(a b:uj)(ha:Byt a.nl a.name)(hb:Byt b.nl b.name):u8s a.nl a.name=u8s b.nl b.name↔M.SameName a b:=uio _ _ _ _ ha hb
structure up7(w:World)(y:Nat)(ra la:Option Addr)(nr rc nb lc:Nat)(R:Nat→uj)(k:Nat)(x:World):Prop where
 box0:x.cell? ⟨y,0,none⟩=some (.slice ra nr rc)
 box1:x.cell? ⟨y,1,none⟩=some (.slice la nb lc)
 map:∃D:DataW Unit,x.ownsMap Tryz.prog 9 (plainElem Tryz.prog 3) (y+1) k D∧HasNames D R k
 bel:Below w.heap.size w x
 size:y+2≤x.heap.size
def upm(w:World)(ra la:Option Addr)(nr rc nb lc:Nat)(R:Nat→uj)(i:Value)(wr:World):Prop :=
 ∃k:Nat,k≤nr∧i=.int .i64 (k:Int)∧up7 w w.heap.size ra la nr rc nb lc R k wr∧∀j,j<k→M.NameB (R j).nl (R j).name∧∀i,i<j→¬M.SameName (R j) (R i)
set_option maxHeartbeats 4000000 in
theorem kM(Q:Nat→Prop)(ra la:Option Addr)(rc lc:Nat)(g:Gr)(w:World)(hG:GramA Q w ra la g)(hs:yb g) :
  Calls Tryz.prog 45 #[.agg #[.slice ra g.nr rc,.slice la g.nb lc]] w (yT (qO g) w):=by
 obtain⟨nr,R,nb,L⟩:=g;obtain⟨hR,hL⟩:=hG;obtain⟨h1,h2,s1,s2⟩:=hs;simp only at hR hL h1 h2 s1 s2 ⊢;have HR:Hid (RulesA Q w ra nr R):=hR;have HL:Hid (LabsA Q w la nb L):=hL;have S1:Hid (∀i,i<nr→yL (R i)):=s1;have S2:Hid (∀i,i<nb→yL (L i)):=s2;have hmm:=@run_makeMap Tryz.prog;clear hR hL s1 s2;go_enter Tryz.func45,Tryz.ntmps45;go_wp2;go_loopw [14] (fun i wr=>upm w ra la nr rc nb lc R i wr) (fun i _=>nr-(intOf i).toNat)
 case atStart =>
  have ha:=ke w (.slice ra nr rc) (.slice la nb lc) 26;refine⟨0,Nat.zero_le _,rfl,⟨vp _ ha.1,vp _ ha.2,⟨.map [],?_,HasNames.start R⟩,yx w _ _,by simp⟩,fun j hj=>absurd hj (Nat.not_lt_zero _)⟩
  have:=World.ownsMap_made (H:=Unit) (w.alloc (Obj.cells #[Value.slice ra nr rc,Value.slice la nb lc] 26)) Tryz.prog 9 (plainElem Tryz.prog 3)
  rwa [World.size_alloc]at this
 case round =>
  obtain⟨k,hk,rfl,ho,hall⟩:=hrel;have HA:Hid (∀j,j<k→M.NameB (R j).nl (R j).name∧∀i,i<j→¬M.SameName (R j) (R i)):=hall;clear hall hmm;have g0:=ho.box0;have g1:=ho.box1;have hsz:=ho.size;have l0:w.heap.size<wr.heap.size:=by omega
  have l1:w.heap.size+1<wr.heap.size:=by omega
  by_cases hlt:k<nr
  ·have hR:=HR.out.later ho.bel
   rcases hR with h0 | ⟨b,off,rfl,hq,hR⟩
   ·omega
   obtain⟨⟨na,nc,c0,hn⟩,⟨ba,bc,c1,hb⟩⟩:=hR k hlt;clear hb hR;have hbl:b<wr.heap.size:=ub c0;obtain⟨D,hown,hhas⟩:=ho.map;have HHAS:Hid (HasNames D R k):=hhas;have HBX:Hid (Below w.heap.size w wr):=ho.bel;have hnl:=(S1.out k hlt).name;have HBY:Hid (Byt (R k).nl (R k).name):=(S1.out k hlt).byt;have HIN:Hid (Ints Q .u8 wr na (R k).nl (R k).name):=hn;have hconv:∀o,(convert 22 9 (.slice na (R k).nl nc)).run Tryz.prog (wr.alloc o)=.ok (.string (str (R k).nl (R k).name)) (wr.alloc o):=fun o=>vZ Q na (R k).nl nc (R k).name _ (hn.later (up wr o))
   have hlen:(str (R k).nl (R k).name).size≤maxLen:=by rw[yC];unfold maxLen;omega
   have HSD:Hid ((str (R k).nl (R k).name).data.toList=u8s (R k).nl (R k).name):=yU _ _;clear hhas hn;generalize str (R k).nl (R k).name=s at hconv hlen HSD;have hkey:=Go.WideMaps.keyOf_string_mk Tryz.underlying9 hlen;have HOW:Hid (wr.ownsMap Tryz.prog 9 (plainElem Tryz.prog 3) (w.heap.size+1) k D):=hown;have HKEY:Hid (keyOf Tryz.prog 9 (.string s)=some (.string s.data.toList)):=hkey;clear hown hkey ho;have HSAME:Hid (∀j,j<k→(u8s (R j).nl (R j).name=s.data.toList↔M.SameName (R k) (R j))):=fun j hj=>by
    rw[HSD.out];exact⟨fun q=>(ud1 _ _ HBY.out (S1.out j (by omega)).byt).1 q.symm,fun q=>((ud1 _ _ HBY.out (S1.out j (by omega)).byt).2 q).symm⟩
   have hI:∀o,Ints Q .u8 (wr.alloc o) na (R k).nl (R k).name:=fun o=>HIN.out.later (up wr o)
   have HI:Hid (∀o,Ints Q .u8 (wr.alloc o) na (R k).nl (R k).name):=hI;clear hI;cases hh:Maps.has D (.string s.data.toList) with
   |true =>
    have HH:Hid (Maps.has D (.string s.data.toList)=true):=hh;go_wp2_with (at_lookup;refine wpList_lookup_own_ok_int _ rfl _ _ 57 rfl 9 3 .i64 unR Tryz.underlying57 Tryz.underlying3 (zero3 _) (w.heap.size+1) k D rfl (HOW.out.alloc _) _ _ rfl HKEY.out ?_;intro c hat hwc;clear hat hwc);go_ret;refine⟨⟨false,rfl,uR fun q=>?_⟩,uh HBX.out (up wr _)⟩
    obtain⟨j,hj,e⟩:=(HHAS.out _).1 HH.out;exact (q.1 k hlt).2 j hj ((HSAME.out j hj).1 e)
   |false =>
    have HH:Hid (Maps.has D (.string s.data.toList)=false):=hh;by_cases he:M.NameB (R k).nl (R k).name
    ·have HE:Hid (M.NameB (R k).nl (R k).name):=he
     clear he;go_wp2_with (first|(at_lookup;refine wpList_lookup_own_ok_int _ rfl _ _ 57 rfl 9 3 .i64 unR Tryz.underlying57 Tryz.underlying3 (zero3 _) (w.heap.size+1) k D rfl (HOW.out.alloc _) _ _ rfl HKEY.out ?_;intro c hat hwc;clear hat hwc)|(go_at_call 77;refine (jX Q na (R k).nl nc (R k).name _ (HI.out _) HBY.out hnl).mono ?_;rintro e W ⟨⟨r,rfl,hr⟩,hw⟩;subst W;obtain rfl:r=true:=hr.2 HE.out;clear hr)|(at_mapUpdate;refine wpList_mapUpdate_own _ rfl _ _ _ 57 rfl 9 3 unR Tryz.underlying57 _ (w.heap.size+1) k D rfl (HOW.out.alloc _) (by unfold maxLen;omega) _ _ _ rfl rfl HKEY.out _ [] (plainElem_int Tryz.underlying3 (WalkArith.wf_i64 (by omega))) ?_;intro w1 hown1 hgrow1;have HO1:Hid _:=hown1;have HG1:Hid _:=hgrow1;clear hown1 hgrow1))
     have bb:Below w.heap.size w w1:=(uh HBX.out (up wr _)).grown HG1.out (by simp;omega) (fun r e=>by cases e;omega)
     have ss:=HG1.out.size;simp only[World.size_alloc]at ss;refine⟨⟨k+1,by omega,by go_num,⟨(World.cell?_of_block (HG1.out.block w.heap.size (by simp;omega) (by simp))).trans (vp _ g0),(World.cell?_of_block (HG1.out.block w.heap.size (by simp;omega) (by simp))).trans (vp _ g1),⟨_,HO1.out,?_⟩,bb,by omega⟩,?_⟩,by simp[intOf];omega⟩
     ·rw[HSD.out];exact HHAS.out.step HOW.out.isMap _
     ·refine vL HA.out ⟨HE.out,fun i hi q=>?_⟩
      have:=(HHAS.out _).2 ⟨i,hi,(HSAME.out i hi).2 q⟩;rw[HH.out]at this;cases this
    ·have HE:Hid (¬M.NameB (R k).nl (R k).name):=he
     clear he;go_wp2_with (first|(at_lookup;refine wpList_lookup_own_ok_int _ rfl _ _ 57 rfl 9 3 .i64 unR Tryz.underlying57 Tryz.underlying3 (zero3 _) (w.heap.size+1) k D rfl (HOW.out.alloc _) _ _ rfl HKEY.out ?_;intro c hat hwc;clear hat hwc)|(go_at_call 77;refine (jX Q na (R k).nl nc (R k).name _ (HI.out _) HBY.out hnl).mono ?_;rintro e W ⟨⟨r,rfl,hr⟩,hw⟩;subst W;obtain rfl:r=false:=by { cases r;rfl;exact absurd (hr.1 rfl) HE.out };clear hr))
     go_ret;exact⟨⟨false,rfl,uR fun q=>HE.out (q.1 k hlt).1⟩,uh HBX.out (up wr _)⟩
  ·obtain rfl:k=nr:=by omega
   obtain⟨W1,eW⟩:∃W1,wr=W1:=⟨_,rfl⟩;subst wr;have HBW:Hid (Below w.heap.size w W1):=ho.bel;have HL':Hid (LabsA Q W1 la nb L):=HL.out.later ho.bel;clear ho HL;go_wp2;go_loopw [43] (fun i wr'=>ufD W1 nb (fun j=>M.NameB (L j).nl (L j).name∧(0<j→M.LessName (L (j-1)) (L j))) i wr') (fun i _=>nb-(intOf i).toNat)
   case atStart=>exact⟨0,Nat.zero_le _,rfl,Below.refl _ _,fun j hj=>absurd hj (Nat.not_lt_zero _)⟩
   case round =>
    obtain⟨m,hm,rfl,hbel,hall⟩:=hrel;have HM:Hid (∀j,j<m→M.NameB (L j).nl (L j).name∧(0<j→M.LessName (L (j-1)) (L j))):=hall;clear hall;have HBE:Hid (Below W1.heap.size W1 wr):=hbel;have HBX:Hid (Below w.heap.size w wr):=uh HBW.out hbel;have e0:wr.cell? ⟨w.heap.size,0,none⟩=some (.slice ra k rc):=ug g0 hbel;have e1:wr.cell? ⟨w.heap.size,1,none⟩=some (.slice la nb lc):=ug g1 hbel;have esz:w.heap.size<wr.heap.size:=Nat.lt_of_lt_of_le l0 hbel.size;clear g0 g1 hsz l0 l1;by_cases hlt:m<nb
    ·have hL:=HL'.out.later hbel
     rcases hL with h0 | ⟨b,off,rfl,hq,hL⟩
     ·omega
     obtain⟨⟨na,nc,c0,hn⟩,c1,⟨ba,bc,c2,hb⟩⟩:=hL m hlt;have hbl:b<wr.heap.size:=ub c0;have hnl:=(S2.out m hlt).name;have HBY:Hid (Byt (L m).nl (L m).name):=(S2.out m hlt).byt;have hI:∀o d,Ints Q .u8 ((wr.alloc o).drewN d) na (L m).nl (L m).name:=fun o d=>hn.later (below_drewN (up wr o) d)
     have HI:Hid (∀o d,Ints Q .u8 ((wr.alloc o).drewN d) na (L m).nl (L m).name):=hI;clear hb hbel hn hI;by_cases he:M.NameB (L m).nl (L m).name
     ·have HE:Hid (M.NameB (L m).nl (L m).name):=he
      have QN:∀o d,Calls Tryz.prog 77 #[.slice na (L m).nl nc] ((wr.alloc o).drewN d) fun e w'=>e=.returned (.bool true)∧w'=(wr.alloc o).drewN d:=fun o d =>
       (jX Q na (L m).nl nc (L m).name _ (HI.out o d) HBY.out hnl).mono (fun e W h=>by obtain⟨⟨r,rfl,hr⟩,rfl⟩:=h;rw[hr.2 he];exact⟨rfl,rfl⟩)
      have HQN:Hid (∀o d,Calls Tryz.prog 77 #[.slice na (L m).nl nc] ((wr.alloc o).drewN d) fun e w'=>e=.returned (.bool true)∧w'=(wr.alloc o).drewN d):=QN
      clear he QN;by_cases hz:m=0
      ·subst hz
       clear hL;simp only[Nat.zero_mul,Nat.add_zero]at c0 c1 c2;go_wp2_with fail;go_quiet (first|(go_at_call 77;exact Calls.quiet_of_same (HQN.out _ _)))
       go_wp2;go_roundw
       case rel=>exact⟨1,by omega,by go_num,uh HBE.out (below_drewN (up wr _) _),vL HM.out ⟨HE.out,fun q=>absurd q (Nat.lt_irrefl _)⟩⟩
       case measure=>simp[intOf];omega
      ·obtain⟨p,hp⟩:∃p,m=p+1:=⟨m-1,by omega⟩
       have HP:Hid (m=p+1):=hp;have em:(m:Int)-1=(p:Int):=by omega
       have hmp:0<m:=by omega
       have hmp':(0:Int)<(m:Int):=by omega
       have hpl:p<nb:=by omega
       have hpl':(p:Int)<(nb:Int):=by omega
       clear hz hp;obtain⟨⟨na',nc',d0,hn'⟩,d1,⟨ba',bc',d2,hb'⟩⟩:=hL p hpl;have hI':∀o d,Ints Q .u8 ((wr.alloc o).drewN d) na' (L p).nl (L p).name:=fun o d=>hn'.later (below_drewN (up wr o) d)
       obtain⟨r,r1,r2,r3,hcmp⟩:=uhn (L p).nl (L m).nl (L p).name (L m).name (S2.out p hpl).byt HBY.out;have HC:Hid (∀o d,Calls Tryz.prog 78 #[.slice na' (L p).nl nc',.slice na (L m).nl nc] ((wr.alloc o).drewN d) fun e w'=>e=.returned (.int .i64 r)∧w'=(wr.alloc o).drewN d):=fun o d=>hcmp Q na' na nc' nc _ (hI' o d) (HI.out o d)
       have HR3:Hid (r<0↔M.LessName (L (m-1)) (L m)):=by
        show r<0↔M.LessName (L (m-1)) (L m);rw[show m-1=p by have:=HP.out;omega];exact r3
       clear hL hn' hb' hI' hcmp r3;by_cases hr:r<0
       ·have hr':¬(0:Int)≤r:=by omega
        go_wp2_with fail;go_quiet (first|(go_at_call 77;exact Calls.quiet_of_same (HQN.out _ _))|(go_at_call 78;exact Calls.quiet_of_same (HC.out _ _)))
        go_wp2;go_roundw
        case rel=>exact⟨m+1,by omega,by go_num,uh HBE.out (below_drewN (up wr _) _),vL HM.out ⟨HE.out,fun _=>HR3.out.1 hr⟩⟩
        case measure=>simp[intOf];omega
       ·have hr':(0:Int)≤r:=by omega
        go_wp2_with fail;go_quiet (first|(go_at_call 77;exact Calls.quiet_of_same (HQN.out _ _))|(go_at_call 78;exact Calls.quiet_of_same (HC.out _ _)))
        go_wp2;go_ret;exact⟨⟨false,rfl,uR fun q=>by have:=HR3.out.2 ((q.2 m hlt).2 hmp);omega⟩,uh HBX.out (below_drewN (up wr _) _)⟩
     ·have HE:Hid (¬M.NameB (L m).nl (L m).name):=he
      have QN:∀o d,Calls Tryz.prog 77 #[.slice na (L m).nl nc] ((wr.alloc o).drewN d) fun e w'=>e=.returned (.bool false)∧w'=(wr.alloc o).drewN d:=fun o d =>
       (jX Q na (L m).nl nc (L m).name _ (HI.out o d) HBY.out hnl).mono (fun e W h=>by
        obtain⟨⟨r,rfl,hr⟩,rfl⟩:=h;obtain rfl:r=false:=by { cases r;rfl;exact absurd (hr.1 rfl) HE.out }
        exact⟨rfl,rfl⟩)
      have HQN:Hid (∀o d,Calls Tryz.prog 77 #[.slice na (L m).nl nc] ((wr.alloc o).drewN d) fun e w'=>e=.returned (.bool false)∧w'=(wr.alloc o).drewN d):=QN
      clear he QN hL;go_wp2_with fail;go_quiet (first|(go_at_call 77;exact Calls.quiet_of_same (HQN.out _ _)))
      go_wp2;go_ret;exact⟨⟨false,rfl,uR fun q=>HE.out (q.2 m hlt).1⟩,uh HBX.out (below_drewN (up wr _) _)⟩
    ·obtain rfl:m=nb:=by omega
     go_wp2;go_ret;exact⟨⟨true,rfl,yN ⟨HA.out,HM.out⟩⟩,HBX.out⟩
end
section
open Go.RowKit
open M (OpD uj Gr)
theorem uem(g:Gr):∀m,yR g (g.nr+m)=M.sum (fun i=>(g.rule i).bl) g.nr+M.sum (fun i=>(g.lab i).bl) m
  |0=>by
    have:∀n,n≤g.nr→yR g n=M.sum (fun i=>(g.rule i).bl) n:=by
      intro n hn;induction n with
      |zero=>rfl
      |succ n ih=>rw[qP,ih (by omega),M.sum,uaW g (by omega)]
    rw[Nat.add_zero,this _ (Nat.le_refl _)];rfl
  |m+1=>by
    have:=uem g m;rw[←Nat.add_assoc,qP,this,ud2,M.sum,Nat.add_assoc]
theorem uen(g:Gr):yR g (g.nr+g.nb)=M.ops g:=uem g g.nb
theorem umV{g:Gr}{P:uj→Prop}:(∀p,p<g.nr+g.nb→P (nd g p))↔(∀i,i<g.nr→P (g.rule i))∧∀i,i<g.nb→P (g.lab i):=by
  constructor
  · intro h
    exact⟨fun i hi=>uaW g hi▸h i (by omega),fun i hi=>ud2 g i▸h (g.nr+i) (by omega)⟩
  · rintro⟨h1,h2⟩ p hp
    unfold nd;split
    · exact h1 p (by omega)
    · exact h2 _ (by omega)
theorem ueo(g:Gr):¬ud4 g↔g.nr≤100∧g.nb≤100∧M.ops g≤2000∧(∀i,i<g.nr→(g.rule i).nl≤32)∧∀i,i<g.nb→(g.lab i).nl≤32:=by
  have hn:=umV (g:=g) (P:=fun d=>d.nl≤32)
  unfold ud4;constructor
  · intro h
    have h1:g.nr≤100:=Nat.le_of_not_lt fun q=>h (.inl q)
    have h2:g.nb≤100:=Nat.le_of_not_lt fun q=>h (.inr (.inl q))
    have h3:∀p,p<g.nr+g.nb→¬(2000<yR g (p+1)∨32<(nd g p).nl):=fun p hp q=>h (.inr (.inr ⟨p,hp,q⟩))
    refine⟨h1,h2,?_,hn.1 fun p hp=>Nat.le_of_not_lt fun q=>h3 p hp (.inr q)⟩
    rw[←uen];by_cases e:g.nr+g.nb=0
    · rw[e];exact Nat.zero_le _
    · have:=h3 (g.nr+g.nb-1) (by omega)
      rw[show g.nr+g.nb-1+1=g.nr+g.nb by omega]at this
      omega
  · rintro⟨h1,h2,h3,h4⟩ (q | q | ⟨p,hp,q | q⟩)
    · omega
    · omega
    · have:=M.sum_le (fun i=>(nd g i).bl) (show p+1≤g.nr+g.nb by omega)
      have e:M.sum (fun i=>(nd g i).bl) (g.nr+g.nb)=M.ops g:=uen g
      have e2:M.sum (fun i=>(nd g i).bl) (p+1)=yR g (p+1):=rfl
      omega
    · have:=hn.2 h4 p hp
      omega
theorem ucx(g:Gr)(i:Nat):vX g (g.nr+g.nb) i↔(∃j,j<g.nr∧M.Throws (g.rule j).bl (g.rule j).body i)∨∃j,j<g.nb∧M.Throws (g.lab j).bl (g.lab j).body i:=by
  constructor
  · rintro⟨q,hq,h⟩
    by_cases e:q<g.nr
    · rw[uaW g e]at h
      exact .inl ⟨q,e,h⟩
    · obtain⟨m,rfl⟩:∃m,q=g.nr+m:=⟨q-g.nr,by omega⟩
      rw[ud2]at h;exact .inr ⟨m,by omega,h⟩
  · rintro (⟨j,hj,h⟩|⟨j,hj,h⟩)
    · exact⟨j,by omega,by rw[uaW g hj];exact h⟩
    · exact⟨g.nr+j,by omega,by rw[ud2];exact h⟩
theorem kh(g:Gr):M.Valid g↔0<g.nr∧¬ud4 g∧qO g∧kD g∧ui3 g:=by
  rw[ueo];constructor
  · intro h
    refine⟨h.r1,⟨h.r2,h.l2,h.ol,fun i hi=>(h.rn i hi).1,fun i hi=>(h.ln i hi).1⟩,⟨fun i hi=>⟨(h.rn i hi).2,h.ru i hi⟩,fun i hi=>⟨(h.ln i hi).2,h.la i hi⟩⟩,
      ⟨h.rb,fun i hi=>⟨h.lb i hi,h.lz i hi⟩⟩,fun i hi hh=>(ucx g i).2 (h.lt i hi hh)⟩
  · rintro⟨h1,⟨h2,h3,h4,h5,h6⟩,⟨h7,h8⟩,⟨h9,h10⟩,h11⟩
    exact { r1:=h1,r2:=h2,l2:=h3,rn:=fun i hi=>⟨h5 i hi,(h7 i hi).1⟩,ru:=fun i hi=>(h7 i hi).2,ln:=fun i hi=>⟨h6 i hi,(h8 i hi).1⟩,la:=fun i hi=>(h8 i hi).2,
            rb:=h9,lb:=fun i hi=>(h10 i hi).1,lz:=fun i hi=>(h10 i hi).2,lt:=fun i hi hh=>(ucx g i).1 (h11 i hi hh),ol:=h4 }
theorem uol(g:Gr)(h:kD g):udZ g:=by
  have key:∀p,p<g.nr+g.nb→∀i,i<(nd g p).bl→M.ElemOK g.nr g.nb ((nd g p).body i):=by
    refine umV (P:=fun d=>∀i,i<d.bl→M.ElemOK g.nr g.nb (d.body i)) |>.2 ⟨fun i hi=>(h.1 i hi).1,fun i hi=>?_⟩
    cases hh:(g.lab i).has with
    |true=>exact ((h.2 i hi).1 hh).1
    |false=>intro j hj;have:=(h.2 i hi).2 hh;omega
  intro p hp i hi hk;have hE:=key p hp i hi;generalize (nd g p).body i=d at hE hk ⊢;obtain⟨kd,sl,S,arg⟩:=d;simp only at hk;subst hk;have:=(ue4 _ _ _ _ _).1 hE;exact⟨this.1,this.2.1⟩
theorem Flat.later{w W:World}{ra la:Option Addr}{g:Gr}{rb ro lb lo:Nat}{na ba:Nat→Option Addr}{nc bc:Nat→Nat}(h:Flat w ra la g rb ro lb lo na ba nc bc)(k:Below w.heap.size w W):Flat W ra la g rb ro lb lo na ba nc bc :=
  ⟨h.ra,h.la,fun i hi=>ug (h.r0 i hi) k,fun i hi=>ug (h.r1 i hi) k,fun i hi=>ug (h.l0 i hi) k,fun i hi=>ug (h.l1 i hi) k,fun i hi=>ug (h.l2 i hi) k⟩
theorem RulesA.at'{Q:Nat→Prop}{w:World}{a:Option Addr}{n:Nat}{R:Nat→uj}(h:RulesA Q w a n R):∃b off,(0<n→a=some ⟨b,off,none⟩)∧∀i,i<n→RuleC Q w b (off+i*2) (R i):=by
  rcases h with h | ⟨b,off,e,_,h⟩
  · exact⟨0,0,fun q=>by omega,fun i hi=>by omega⟩
  · exact⟨b,off,fun _=>e,h⟩
theorem LabsA.at'{Q:Nat→Prop}{w:World}{a:Option Addr}{n:Nat}{R:Nat→uj}(h:LabsA Q w a n R):∃b off,(0<n→a=some ⟨b,off,none⟩)∧∀i,i<n→LabC Q w b (off+i*3) (R i):=by
  rcases h with h | ⟨b,off,e,_,h⟩
  · exact⟨0,0,fun q=>by omega,fun i hi=>by omega⟩
  · exact⟨b,off,fun _=>e,h⟩
theorem ujs{Q:Nat→Prop}{w:World}{ra la:Option Addr}{g:Gr}(h:GramA Q w ra la g):∃rb ro lb lo na ba nc bc,Flat w ra la g rb ro lb lo na ba nc bc∧∀p,p<g.nr+g.nb→OpsA Q w (ba p) (nd g p).bl (nd g p).body:=by
  obtain⟨rb,ro,er,hr⟩:=h.rules.at';obtain⟨lb,lo,el,hl⟩:=h.labs.at';obtain⟨f,hf⟩:=Deep.choose_lt (α:=(Option Addr×Nat)×(Option Addr×Nat)) (n:=g.nr+g.nb) (p:=fun p x =>
      (p<g.nr→w.cell? ⟨rb,ro+p*2,none⟩=some (.slice x.1.1 (nd g p).nl x.1.2)∧w.cell? ⟨rb,ro+p*2+1,none⟩=some (.slice x.2.1 (nd g p).bl x.2.2)) ∧
      (∀m,p=g.nr+m→w.cell? ⟨lb,lo+m*3,none⟩=some (.slice x.1.1 (nd g p).nl x.1.2)∧w.cell? ⟨lb,lo+m*3+2,none⟩=some (.slice x.2.1 (nd g p).bl x.2.2)) ∧
      OpsA Q w x.2.1 (nd g p).bl (nd g p).body) (fun p hp=>by
    by_cases e:p<g.nr
    · obtain⟨⟨a,c,h1,_⟩,⟨a',c',h2,h3⟩⟩:=hr p e
      rw[uaW g e];exact⟨⟨(a,c),(a',c')⟩,fun _=>⟨h1,h2⟩,fun m hm=>by omega,h3⟩
    · obtain⟨m,rfl⟩:∃m,p=g.nr+m:=⟨p-g.nr,by omega⟩
      obtain⟨⟨a,c,h1,_⟩,_,⟨a',c',h2,h3⟩⟩:=hl m (by omega)
      rw[ud2];refine⟨⟨(a,c),(a',c')⟩,fun q=>by omega,fun m' hm=>?_,h3⟩
      obtain rfl:m=m':=by omega
      exact⟨h1,h2⟩)
  refine⟨rb,ro,lb,lo,fun p=>(f p).1.1,fun p=>(f p).2.1,fun p=>(f p).1.2,fun p=>(f p).2.2,⟨er,el,fun i hi=>((hf i (by omega)).1 hi).1,fun i hi=>((hf i (by omega)).1 hi).2,
    fun i hi=>((hf (g.nr+i) (by omega)).2.1 i rfl).1,fun i hi=>(hl i hi).has,fun i hi=>((hf (g.nr+i) (by omega)).2.1 i rfl).2⟩,fun p hp=>(hf p hp).2.2⟩
theorem yD(Q:Nat→Prop)(ra la:Option Addr)(rc lc:Nat)(g:Gr)(w:World)(hG:GramA Q w ra la g)(hs:yb g) :
    Calls Tryz.prog 21 #[.agg #[.slice ra g.nr rc,.slice la g.nb lc]] w (yT (ud4 g) w):=by
  obtain⟨rb,ro,lb,lo,na,ba,nc,bc,hF,_⟩:=ujs hG;exact callsIn_wide.1 (uex ra la rc lc g rb ro lb lo na ba nc bc w hs (fun W hW=>hF.later hW))
theorem ucY(Q:Nat→Prop)(ra la:Option Addr)(rc lc:Nat)(g:Gr)(w:World)(hG:GramA Q w ra la g)(hs:yb g)(hA:udZ g)(hsum:yR g (g.nr+g.nb)≤2000) :
    Calls Tryz.prog 47 #[.agg #[.slice ra g.nr rc,.slice la g.nb lc]] w (yT (ui3 g) w):=by
  obtain⟨rb,ro,lb,lo,na,ba,nc,bc,hF,hO⟩:=ujs hG;exact callsIn_wide.1 (ud0 Q ra la rc lc g rb ro lb lo na ba nc bc w hs (fun W hW=>hF.later hW) hO hA hsum)
set_option maxHeartbeats 2000000 in
theorem ucy(Q:Nat→Prop)(ra la:Option Addr)(rc lc:Nat)(g:Gr)(w:World)(hG:GramA Q w ra la g)(hs:yb g) :
    Calls Tryz.prog 22 #[.agg #[.slice ra g.nr rc,.slice la g.nb lc]] w (yT (M.Valid g) w):=by
  have HG:Hid (GramA Q w ra la g):=hG;have h1:=hs.nr;have h2:=hs.nb;have HS:Hid (yb g):=hs;clear hG hs;have box:∀W,Below (w.alloc (.cells #[.slice ra g.nr rc,.slice la g.nb lc] 26)).heap.size (w.alloc (.cells #[.slice ra g.nr rc,.slice la g.nb lc] 26)) W→W.cell? ⟨w.heap.size,0,none⟩=some (.slice ra g.nr rc)∧W.cell? ⟨w.heap.size,1,none⟩=some (.slice la g.nb lc):=fun W hW =>
    ⟨ug (ke w _ _ 26).1 hW,ug (ke w _ _ 26).2 hW⟩
  have BX:Hid (∀W,Below (w.alloc (.cells #[.slice ra g.nr rc,.slice la g.nb lc] 26)).heap.size (w.alloc (.cells #[.slice ra g.nr rc,.slice la g.nb lc] 26)) W→W.cell? ⟨w.heap.size,0,none⟩=some (.slice ra g.nr rc)∧W.cell? ⟨w.heap.size,1,none⟩=some (.slice la g.nb lc)):=box;clear box;by_cases e0:g.nr=0
  · have t0:¬(0:Int)<(g.nr:Int):=by omega
    go_enter Tryz.func22,Tryz.ntmps22;go_wp2;go_ret;exact⟨⟨false,rfl,uR fun q=>by have:=q.r1;omega⟩,up w _⟩
  have t0:(0:Int)<(g.nr:Int):=by omega
  by_cases e1:ud4 g
  · have E1:Hid (ud4 g):=e1
    clear e1;go_enter Tryz.func22,Tryz.ntmps22;go_wp2_with (go_at_call 21;refine (yD Q ra la rc lc g _ (HG.out.later (up w _)) HS.out).mono ?_;rintro e W ⟨⟨r,rfl,hr⟩,hb⟩;obtain rfl:r=true:=hr.2 E1.out;have HW:Hid _:=hb;clear hr hb);go_ret;exact⟨⟨false,rfl,uR fun q=>((kh g).1 q).2.1 E1.out⟩,uh (up w _) HW.out⟩
  have E1:Hid (¬ud4 g):=e1;clear e1;by_cases e2:qO g
  · have E2:Hid (qO g):=e2
    clear e2;by_cases e3:kD g
    · have E3:Hid (kD g):=e3
      have EA:Hid (udZ g):=uol g e3;have ES:Hid (yR g (g.nr+g.nb)≤2000):=by show _≤_;rw[uen];exact ((ueo g).1 E1.out).2.2.1
      clear e3;go_enter Tryz.func22,Tryz.ntmps22;go_wp2_with (first|(go_at_call 21;refine (yD Q ra la rc lc g _ (HG.out.later (up w _)) HS.out).mono ?_;rintro e W ⟨⟨r,rfl,hr⟩,hb⟩;obtain rfl:r=false:=by { cases r;rfl;exact absurd (hr.1 rfl) E1.out };obtain⟨x0,x1⟩:=BX.out W hb;have HW:Hid _:=hb;clear hr hb)|(go_at_call 45;refine (kM Q ra la rc lc g _ (HG.out.later (uh (up w _) HW.out)) HS.out).mono ?_;rintro e W2 ⟨⟨r,rfl,hr⟩,hb⟩;obtain rfl:r=true:=hr.2 E2.out;obtain⟨y0,y1⟩:=BX.out W2 (uh HW.out hb);have HW2:Hid _:=uh HW.out hb;clear hr hb)|(go_at_call 46;refine (qb Q ra la rc lc g _ (HG.out.later (uh (up w _) HW2.out)) HS.out).mono ?_;rintro e W3 ⟨⟨r,rfl,hr⟩,hb⟩;obtain rfl:r=true:=hr.2 E3.out;obtain⟨z0,z1⟩:=BX.out W3 (uh HW2.out hb);have HW3:Hid _:=uh HW2.out hb;clear hr hb)|(go_at_call 47;refine (ucY Q ra la rc lc g _ (HG.out.later (uh (up w _) HW3.out)) HS.out EA.out ES.out).mono ?_;rintro e W4 ⟨⟨r,rfl,hr⟩,hb⟩;have HR:Hid _:=hr;have HW4:Hid _:=uh HW3.out hb;clear hr hb))
      go_ret;exact⟨⟨_,rfl,HR.out.trans ⟨fun q=>(kh g).2 ⟨by omega,E1.out,E2.out,E3.out,q⟩,fun q=>((kh g).1 q).2.2.2.2⟩⟩,uh (up w _) HW4.out⟩
    · have E3:Hid (¬kD g):=e3
      clear e3;go_enter Tryz.func22,Tryz.ntmps22;go_wp2_with (first|(go_at_call 21;refine (yD Q ra la rc lc g _ (HG.out.later (up w _)) HS.out).mono ?_;rintro e W ⟨⟨r,rfl,hr⟩,hb⟩;obtain rfl:r=false:=by { cases r;rfl;exact absurd (hr.1 rfl) E1.out };obtain⟨x0,x1⟩:=BX.out W hb;have HW:Hid _:=hb;clear hr hb)|(go_at_call 45;refine (kM Q ra la rc lc g _ (HG.out.later (uh (up w _) HW.out)) HS.out).mono ?_;rintro e W2 ⟨⟨r,rfl,hr⟩,hb⟩;obtain rfl:r=true:=hr.2 E2.out;obtain⟨y0,y1⟩:=BX.out W2 (uh HW.out hb);have HW2:Hid _:=uh HW.out hb;clear hr hb)|(go_at_call 46;refine (qb Q ra la rc lc g _ (HG.out.later (uh (up w _) HW2.out)) HS.out).mono ?_;rintro e W3 ⟨⟨r,rfl,hr⟩,hb⟩;obtain rfl:r=false:=by { cases r;rfl;exact absurd (hr.1 rfl) E3.out };have HW3:Hid _:=uh HW2.out hb;clear hr hb))
      go_ret;exact⟨⟨false,rfl,uR fun q=>E3.out ((kh g).1 q).2.2.2.1⟩,uh (up w _) HW3.out⟩
  · have E2:Hid (¬qO g):=e2
    clear e2;go_enter Tryz.func22,Tryz.ntmps22;go_wp2_with (first|(go_at_call 21;refine (yD Q ra la rc lc g _ (HG.out.later (up w _)) HS.out).mono ?_;rintro e W ⟨⟨r,rfl,hr⟩,hb⟩;obtain rfl:r=false:=by { cases r;rfl;exact absurd (hr.1 rfl) E1.out };obtain⟨x0,x1⟩:=BX.out W hb;have HW:Hid _:=hb;clear hr hb)|(go_at_call 45;refine (kM Q ra la rc lc g _ (HG.out.later (uh (up w _) HW.out)) HS.out).mono ?_;rintro e W2 ⟨⟨r,rfl,hr⟩,hb⟩;obtain rfl:r=false:=by { cases r;rfl;exact absurd (hr.1 rfl) E2.out };have HW2:Hid _:=uh HW.out hb;clear hr hb))
    go_ret;exact⟨⟨false,rfl,uR fun q=>E2.out ((kh g).1 q).2.2.1⟩,uh (up w _) HW2.out⟩
end
end Go.Proofs.YthicmmhmmfhncaaGreat
