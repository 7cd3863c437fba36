import Derived.Test.YthicmmhmmfhncaaGreatT07
import Derived.Test.YthicmmhmmfhncaaGreatT06
import Derived.Deep.RegionLaw
import Derived.Deep.RegionWith
set_option linter.unusedVariables false
set_option linter.unusedSimpArgs false
namespace Go.Proofs.YthicmmhmmfhncaaGreat
section
open Go.RowKit
open M (OpD uj Gr)
def DrB(t:Tp)(R:Nat)(p:List OpD×Nat)(w:World)(e:Ending)(w':World):Prop :=
 ∃a c,e=.returned (.slice a p.1.length c)∧BodP (New w w') w' (.slice a p.1.length c) p.1∧RdOn t R p.2 w w'
theorem uW{R:Nat}{w w':World}{a:Option Addr}{n c:Nat}{D:List OpD}(h:BodP (New w w') w' (.slice a n c) D)(hR:R<w.heap.size):OpsA (fun b=>b≠R) w' a D.length (df D) :=
 h.ops.wide (fun b hb e=>by have:=hb.1;omega)
theorem yj{t:Tp}{R i:Nat}{w wk w':World}{a:Option Addr}{c:Nat}{D:List OpD}(h:RdOn t R i w wk)(hb:BodP (New wk w') w' (.slice a D.length c) D)(hk:Keep (fun _=>False) wk w'):DrB t R (D,i) w (.returned (.slice a D.length c)) w' :=
 ⟨a,c,rfl,hb.wide (fun b q=>⟨by have:=h.le;have:=q.1;omega,q.2⟩),h.quiet hk⟩
theorem uhO{d:Nat}(h:d≤5):big d≤200:=by
 match d,h with
 |0,_=>decide
 |1,_=>decide
 |2,_=>decide
 |3,_=>decide
 |4,_=>decide
 |5,_=>decide
theorem yz(t:Tp)(at_ rules labels:Nat):∀(d:Nat) (after:Bool) (i:Nat),0<(vU t at_ rules labels d after i).1.length
 |0,_,i=>by rw[vU];simp[ui]
 |d+1,after,i=>by
  rw[vU];dsimp only
  repeat' split
  all_goals first|(simp[ui,uf,unD,uw];done)|(simp[ui,uf,unD,uw];omega)
set_option maxRecDepth 100000 in
set_option maxHeartbeats 40000000 in
theorem qn(t:Tp)(R at_ rules labels:Nat)(hl1:at_≤100)(hl2:rules≤100)(hl3:labels≤100):∀(d:Nat) (dv:Int) (hdv:dv=(d:Int)) (after:Bool) (i:Nat) (w:World) (p:List OpD×Nat),d≤5→RdA t R w i→vU t at_ rules labels d after i=p →
  Calls Tryz.prog 55 #[.pointer (some ⟨R,0,none⟩),.int .i64 dv,.int .i64 at_,.int .i64 rules,.int .i64 labels,.bool after] w (DrB t R p w):=by
 intro d;induction d with
 |zero =>
  intro dv hdv after i w p hd h hp;have hv:=t.v_le i;have hdv0:dv≤0:=by omega
  obtain rfl:dv=0:=by omega
  clear hdv hdv0;go_enter Tryz.func55,Tryz.ntmps55;go_wp2_with fail;refine (uN t R i w h).mono ?_;rintro e w1 ⟨rfl,hon⟩;have HR1:Hid (RdOn t R (t.n i) w w1):=hon;clear hon h;generalize t.v i=k at *;rw[vU]at hp;obtain⟨s,hs⟩:∃p,yr t (t.n i)=p:=⟨_,rfl⟩;have ucS:s.1.length≤4:=hs▸vw t (t.n i);rw[hs]at hp;subst hp;go_wp2_with fail;refine (uZ t R (t.n i) w1 HR1.out.1 s hs).mono ?_;rintro e w2 ⟨as2,cs2,rfl,hI,hon⟩;have HR2:Hid (RdOn t R s.2 w w2):=HR1.out.trans hon;have HI2:Hid (Ints (fun b=>b≠R) .i64 w2 as2 s.1.length (lf s.1)):=hI
  clear hon hI;go_wp2_with fail;refine (uU _ as2 cs2 s.1 w2 HI2.out (by omega)).mono ?_
  rintro e w3 ⟨a3,c3,rfl,hbod,hk⟩;have HE:Hid (DrB t R (ui s.1,s.2) w (.returned (.slice a3 (ui s.1).length c3)) w3):=yj HR2.out hbod hk;clear hbod hk;go_wp2;go_ret;exact HE.out
 |succ d ih =>
  intro dv hdv after i w p hd h hp;have hv:=t.v_le i;have hbig:=uhO (d:=d) (by omega)
  have hdv1:¬dv≤0:=by omega
  have hdv2:dv≤5:=by omega
  have hdv3:decide (dv≤0)=false:=by simp;omega
  have HDV:Hid (dv=((d+1:Nat):Int)):=hdv;clear hdv;go_enter Tryz.func55,Tryz.ntmps55;go_wp2_with fail;refine (uN t R i w h).mono ?_;rintro e w1 ⟨rfl,hon⟩;obtain⟨j,hj⟩:∃j,t.n i=j:=⟨_,rfl⟩;rw[hj]at hon;have HR1:Hid (RdOn t R j w w1):=hon;clear hon h;rw[vU]at hp;dsimp only at hp;rw[hj]at hp;clear hj;generalize t.v i=k at *;obtain⟨q,hq⟩:∃q:Nat,k%20=q:=⟨_,rfl⟩;have hq':(k:Int)%20=(q:Int):=by omega
  have hql:q<20:=by omega
  rw[hq]at hp;clear hq;by_cases b1:q<4
  ·have b1':(q:Int)<4:=by omega
   rw[if_pos (Or.inl b1)]at hp;obtain⟨s,hs⟩:∃p,yr t j=p:=⟨_,rfl⟩;have ucS:s.1.length≤4:=hs▸vw t j;rw[hs]at hp;subst hp;go_wp2_with fail;refine (uZ t R j w1 HR1.out.1 s hs).mono ?_;rintro e w2 ⟨as2,cs2,rfl,hI,hon⟩;have HR2:Hid (RdOn t R s.2 w w2):=HR1.out.trans hon;have HI2:Hid (Ints (fun b=>b≠R) .i64 w2 as2 s.1.length (lf s.1)):=hI
   clear hon hI;go_wp2_with fail;refine (uU _ as2 cs2 s.1 w2 HI2.out (by omega)).mono ?_
   rintro e w3 ⟨a3,c3,rfl,hbod,hk⟩;have HE:Hid (DrB t R (ui s.1,s.2) w (.returned (.slice a3 (ui s.1).length c3)) w3):=yj HR2.out hbod hk;clear hbod hk;go_wp2;go_ret;exact HE.out
  have b1':¬(q:Int)<4:=by omega
  go_wp2_with fail;refine (ulU t R j w1 HR1.out.1).mono ?_;rintro e w2 ⟨rfl,hon⟩;have HR2:Hid (RdOn t R j w w2):=HR1.out.trans hon;have hjm:=HR2.out.1.le;clear hon;have htm:=t.le;by_cases b2:t.m=j
  ·have b2':(t.m:Int)-(j:Int)=0:=by omega
   rw[if_pos (Or.inr b2)]at hp;have c2:((t.m:Int)-(j:Int)==0)=true:=by simp;omega
   obtain⟨s,hs⟩:∃p,yr t j=p:=⟨_,rfl⟩;have ucS:s.1.length≤4:=hs▸vw t j;rw[hs]at hp;subst hp;go_wp2_with fail;refine (uZ t R j w2 HR2.out.1 s hs).mono ?_;rintro e w3 ⟨as3,cs3,rfl,hI,hon⟩;have HR3:Hid (RdOn t R s.2 w w3):=HR2.out.trans hon;have HI3:Hid (Ints (fun b=>b≠R) .i64 w3 as3 s.1.length (lf s.1)):=hI
   clear hon hI;go_wp2_with fail;refine (uU _ as3 cs3 s.1 w3 HI3.out (by omega)).mono ?_
   rintro e w4 ⟨a4,c4,rfl,hbod,hk⟩;have HE:Hid (DrB t R (ui s.1,s.2) w (.returned (.slice a4 (ui s.1).length c4)) w4):=yj HR3.out hbod hk;clear hbod hk;go_wp2;go_ret;exact HE.out
  have b2':¬(t.m:Int)-(j:Int)=0:=by omega
  have b2'':((t.m:Int)-(j:Int)==0)=false:=by simp;omega
  rw[if_neg (not_or.2 ⟨b1,b2⟩)]at hp;by_cases b3:q=4
  ·have b3':(q:Int)=4:=by omega
   rw[if_pos b3]at hp;subst hp;go_wp2_with fail;refine (uG 0 0 w2).mono ?_;rintro e w3 ⟨a3,c3,rfl,hbod,hk⟩;have HE:Hid (DrB t R (uf 0 0,j) w (.returned (.slice a3 (uf 0 0).length c3)) w3):=yj HR2.out hbod hk;clear hbod hk;go_wp2;go_ret;exact HE.out
  have b3':¬(q:Int)=4:=by omega
  rw[if_neg b3]at hp;by_cases b4:q<7
  ·have b4':(q:Int)<7:=by omega
   rw[if_pos b4]at hp;cases after with
   |true =>
    simp only[if_true,Nat.sub_zero,Nat.zero_add]at hp;by_cases b5:rules≤0
    ·have b5':(rules:Int)≤0:=by omega
     rw[if_pos b5]at hp;obtain⟨s,hs⟩:∃p,yr t j=p:=⟨_,rfl⟩;have ucS:s.1.length≤4:=hs▸vw t j;rw[hs]at hp;subst hp;go_wp2_with fail;refine (uZ t R j w2 HR2.out.1 s hs).mono ?_;rintro e w3 ⟨as3,cs3,rfl,hI,hon⟩;have HR3:Hid (RdOn t R s.2 w w3):=HR2.out.trans hon;have HI3:Hid (Ints (fun b=>b≠R) .i64 w3 as3 s.1.length (lf s.1)):=hI
     clear hon hI;go_wp2_with fail;refine (uU _ as3 cs3 s.1 w3 HI3.out (by omega)).mono ?_
     rintro e w4 ⟨a4,c4,rfl,hbod,hk⟩;have HE:Hid (DrB t R (ui s.1,s.2) w (.returned (.slice a4 (ui s.1).length c4)) w4):=yj HR3.out hbod hk;clear hbod hk;go_wp2;go_ret;exact HE.out
    have b5':¬(rules:Int)≤0:=by omega
    rw[if_neg b5]at hp;have hv2:=t.v_le j;have hnz:¬(rules:Int)=0:=by omega
    have hm:((t.v j%rules:Nat):Int)=(t.v j:Int)%(rules:Int):=by omega
    rw[hm]at hp;clear hm;subst hp;go_wp2_with fail;refine (uN t R j w2 HR2.out.1).mono ?_;rintro e w3 ⟨rfl,hon⟩;have HR3:Hid (RdOn t R (t.n j) w w3):=HR2.out.trans hon;clear hon;generalize t.v j=kj at *;obtain⟨e9,he9⟩:∃e:Nat,kj%rules=e:=⟨_,rfl⟩;have hm9:(kj:Int)%(rules:Int)=(e9:Int):=by rw[←he9];omega
    have hl9:e9<rules:=he9▸Nat.mod_lt kj (by omega)
    have hl9b:e9≤100:=by omega
    clear he9;go_wp2_with fail;refine (uG 2 (e9:Int) w3).mono ?_;rintro e w4 ⟨a4,c4,rfl,hbod,hk⟩;have HE:Hid (DrB t R (uf 2 (e9:Int),(t.n j)) w (.returned (.slice a4 (uf 2 (e9:Int)).length c4)) w4):=yj HR3.out hbod hk;clear hbod hk;go_wp2;go_ret;rw[hm9];exact HE.out
   |false =>
    simp only[Bool.false_eq_true,if_false]at hp;by_cases b5:rules≤(at_+1)
    ·have b5':(rules:Int)≤(at_:Int)+1:=by omega
     rw[if_pos b5]at hp;obtain⟨s,hs⟩:∃p,yr t j=p:=⟨_,rfl⟩;have ucS:s.1.length≤4:=hs▸vw t j;rw[hs]at hp;subst hp;go_wp2_with fail;refine (uZ t R j w2 HR2.out.1 s hs).mono ?_;rintro e w3 ⟨as3,cs3,rfl,hI,hon⟩;have HR3:Hid (RdOn t R s.2 w w3):=HR2.out.trans hon;have HI3:Hid (Ints (fun b=>b≠R) .i64 w3 as3 s.1.length (lf s.1)):=hI
     clear hon hI;go_wp2_with fail;refine (uU _ as3 cs3 s.1 w3 HI3.out (by omega)).mono ?_
     rintro e w4 ⟨a4,c4,rfl,hbod,hk⟩;have HE:Hid (DrB t R (ui s.1,s.2) w (.returned (.slice a4 (ui s.1).length c4)) w4):=yj HR3.out hbod hk;clear hbod hk;go_wp2;go_ret;exact HE.out
    have b5':¬(rules:Int)≤(at_:Int)+1:=by omega
    rw[if_neg b5]at hp;have hv2:=t.v_le j;obtain⟨r,hr⟩:∃r:Nat,rules-(at_+1)=r:=⟨_,rfl⟩;have hr0:0<r:=by omega
    have hr':(rules:Int)-((at_:Int)+1)=(r:Int):=by omega
    have hnz:¬(r:Int)=0:=by omega
    rw[hr]at hp;clear hr;have hm:((at_+1+t.v j%r:Nat):Int)=(at_:Int)+1+(t.v j:Int)%(r:Int):=by omega
    rw[hm]at hp;clear hm;subst hp;go_wp2_with fail;refine (uN t R j w2 HR2.out.1).mono ?_;rintro e w3 ⟨rfl,hon⟩;have HR3:Hid (RdOn t R (t.n j) w w3):=HR2.out.trans hon;clear hon;generalize t.v j=kj at *;obtain⟨e9,he9⟩:∃e:Nat,kj%r=e:=⟨_,rfl⟩;have hm9:(kj:Int)%(r:Int)=(e9:Int):=by rw[←he9];omega
    have hl9:e9<r:=he9▸Nat.mod_lt kj (by omega)
    have hl9b:e9≤100:=by omega
    clear he9;go_wp2_with fail;refine (uG 2 ((at_:Int)+1+(e9:Int)) w3).mono ?_;rintro e w4 ⟨a4,c4,rfl,hbod,hk⟩;have HE:Hid (DrB t R (uf 2 ((at_:Int)+1+(e9:Int)),(t.n j)) w (.returned (.slice a4 (uf 2 ((at_:Int)+1+(e9:Int))).length c4)) w4):=yj HR3.out hbod hk;clear hbod hk;go_wp2;go_ret;rw[hm9];exact HE.out
  have b4':¬(q:Int)<7:=by omega
  rw[if_neg b4]at hp;by_cases b6a:q<9∧0<labels
  ·rw[if_pos b6a]at hp
   obtain⟨b6,b7⟩:=b6a;have b6':(q:Int)<9:=by omega
   have b7':(0:Int)<(labels:Int):=by omega
   have hnz:¬(labels:Int)=0:=by omega
   have hv2:=t.v_le j;have hm:((t.v j%labels:Nat):Int)=(t.v j:Int)%(labels:Int):=by omega
   rw[hm]at hp;clear hm;obtain⟨s,hs⟩:∃p,yr t (t.n j)=p:=⟨_,rfl⟩;have ucS:s.1.length≤4:=hs▸vw t (t.n j);rw[hs]at hp;subst hp;go_wp2_with fail;refine (uN t R j w2 HR2.out.1).mono ?_;rintro e w3 ⟨rfl,hon⟩;have HR3:Hid (RdOn t R (t.n j) w w3):=HR2.out.trans hon;clear hon;generalize t.v j=kj at *;obtain⟨e9,he9⟩:∃e:Nat,kj%labels=e:=⟨_,rfl⟩;have hm9:(kj:Int)%(labels:Int)=(e9:Int):=by rw[←he9];omega
   have hl9:e9<labels:=he9▸Nat.mod_lt kj (by omega)
   have hl9b:e9≤100:=by omega
   clear he9;go_wp2_with fail;refine (uZ t R (t.n j) w3 HR3.out.1 s hs).mono ?_;rintro e w4 ⟨as4,cs4,rfl,hI,hon⟩;have HR4:Hid (RdOn t R s.2 w w4):=HR3.out.trans hon;have HI4:Hid (Ints (fun b=>b≠R) .i64 w4 as4 s.1.length (lf s.1)):=hI
   clear hon hI;go_wp2_with fail;refine (uU _ as4 cs4 s.1 w4 HI4.out (by omega)).mono ?_
   rintro e w5 ⟨a5,c5,rfl,hbod,hk⟩;have HR5:Hid (RdOn t R s.2 w w5):=HR4.out.quiet hk;have HX5ss:Hid (OpsA (fun b=>b≠R) w5 a5 (ui s.1).length (df (ui s.1))):=uW hbod HR4.out.1.lt
   clear hbod hk;go_wp2_with fail;refine (uG 3 (e9:Int) w5).mono ?_;rintro e w6 ⟨a6,c6,rfl,hbod,hk⟩;have HR6:Hid (RdOn t R s.2 w w6):=HR5.out.quiet hk;have HX6ss:Hid (OpsA (fun b=>b≠R) w6 a5 (ui s.1).length (df (ui s.1))):=HX5ss.out.kept hk (fun _ _ q=>q)
   have HX6l:Hid (OpsA (fun b=>b≠R) w6 a6 (uf 3 (e9:Int)).length (df (uf 3 (e9:Int)))):=uW hbod HR5.out.1.lt
   clear hbod hk;go_wp2_with fail;refine (uV _ _ 5 a5 a6 c5 c6 (ui s.1) (uf 3 (e9:Int)) w6 HX6ss.out (Lil.small (uF (s:=s.1) (by omega)) (by omega)) HX6l.out (Lil.small (uH 3 (e9:Int)) (by omega)) (by simp[ui,uf,unD,uw])).mono ?_
   rintro e w7 ⟨a7,c7,rfl,hbod,hk⟩;have HE:Hid (DrB t R (uw 5 (ui s.1) (uf 3 (e9:Int)),s.2) w (.returned (.slice a7 (uw 5 (ui s.1) (uf 3 (e9:Int))).length c7)) w7):=yj HR6.out hbod hk;clear hbod hk;go_wp2;go_ret;rw[hm9];exact HE.out
  rw[if_neg b6a]at hp;have b6':¬((q:Int)<9∧(0:Int)<(labels:Int)):=by omega
  by_cases b7:q<9
  ·have b7':(q:Int)<9:=by omega
   have b7l:¬(0:Int)<(labels:Int):=by omega
   rw[if_pos (show q<13 by omega)]at hp
   have b8':(q:Int)<13:=by omega
   obtain⟨s,hs⟩:∃p,yr t j=p:=⟨_,rfl⟩;have ucS:s.1.length≤4:=hs▸vw t j;rw[hs]at hp;obtain⟨y,hy⟩:∃p,vU t at_ rules labels d true s.2=p:=⟨_,rfl⟩;have lily:Lil (big d) y.1:=hy▸vJ t at_ rules labels d true s.2;have hney:0<y.1.length:=hy▸yz t at_ rules labels d true s.2;rw[hy]at hp;subst hp;go_wp2_with fail;refine (uZ t R j w2 HR2.out.1 s hs).mono ?_;rintro e w3 ⟨as3,cs3,rfl,hI,hon⟩;have HR3:Hid (RdOn t R s.2 w w3):=HR2.out.trans hon;have HI3:Hid (Ints (fun b=>b≠R) .i64 w3 as3 s.1.length (lf s.1)):=hI
   clear hon hI;go_wp2_with fail;refine (uU _ as3 cs3 s.1 w3 HI3.out (by omega)).mono ?_
   rintro e w4 ⟨a4,c4,rfl,hbod,hk⟩;have HR4:Hid (RdOn t R s.2 w w4):=HR3.out.quiet hk;have HX4ss:Hid (OpsA (fun b=>b≠R) w4 a4 (ui s.1).length (df (ui s.1))):=uW hbod HR3.out.1.lt
   clear hbod hk;go_wp2_with fail;refine (ih (dv-1) (by have:=HDV.out;omega) true s.2 w4 y (by omega) HR4.out.1 hy).mono ?_
   rintro e w5 ⟨a5,c5,rfl,hbod,hon⟩;have HR5:Hid (RdOn t R y.2 w w5):=HR4.out.trans hon;have HX5ss:Hid (OpsA (fun b=>b≠R) w5 a4 (ui s.1).length (df (ui s.1))):=HX4ss.out.kept hon.2 (fun _ q=>q)
   have HX5ey:Hid (OpsA (fun b=>b≠R) w5 a5 (y.1).length (df (y.1))):=uW hbod HR4.out.1.lt
   clear hbod hon;go_wp2_with fail;refine (uV _ _ 4 a4 a5 c4 c5 (ui s.1) (y.1) w5 HX5ss.out (Lil.small (uF (s:=s.1) (by omega)) (by omega)) HX5ey.out (Lil.small (lily) (by omega)) hney).mono ?_
   rintro e w6 ⟨a6,c6,rfl,hbod,hk⟩;have HE:Hid (DrB t R (uw 4 (ui s.1) (y.1),y.2) w (.returned (.slice a6 (uw 4 (ui s.1) (y.1)).length c6)) w6):=yj HR5.out hbod hk;clear hbod hk;go_wp2;go_ret;exact HE.out
  have b7':¬(q:Int)<9:=by omega
  by_cases b8:q<13
  ·have b8':(q:Int)<13:=by omega
   rw[if_pos b8]at hp;obtain⟨s,hs⟩:∃p,yr t j=p:=⟨_,rfl⟩;have ucS:s.1.length≤4:=hs▸vw t j;rw[hs]at hp;obtain⟨y,hy⟩:∃p,vU t at_ rules labels d true s.2=p:=⟨_,rfl⟩;have lily:Lil (big d) y.1:=hy▸vJ t at_ rules labels d true s.2;have hney:0<y.1.length:=hy▸yz t at_ rules labels d true s.2;rw[hy]at hp;subst hp;go_wp2_with fail;refine (uZ t R j w2 HR2.out.1 s hs).mono ?_;rintro e w3 ⟨as3,cs3,rfl,hI,hon⟩;have HR3:Hid (RdOn t R s.2 w w3):=HR2.out.trans hon;have HI3:Hid (Ints (fun b=>b≠R) .i64 w3 as3 s.1.length (lf s.1)):=hI
   clear hon hI;go_wp2_with fail;refine (uU _ as3 cs3 s.1 w3 HI3.out (by omega)).mono ?_
   rintro e w4 ⟨a4,c4,rfl,hbod,hk⟩;have HR4:Hid (RdOn t R s.2 w w4):=HR3.out.quiet hk;have HX4ss:Hid (OpsA (fun b=>b≠R) w4 a4 (ui s.1).length (df (ui s.1))):=uW hbod HR3.out.1.lt
   clear hbod hk;go_wp2_with fail;refine (ih (dv-1) (by have:=HDV.out;omega) true s.2 w4 y (by omega) HR4.out.1 hy).mono ?_
   rintro e w5 ⟨a5,c5,rfl,hbod,hon⟩;have HR5:Hid (RdOn t R y.2 w w5):=HR4.out.trans hon;have HX5ss:Hid (OpsA (fun b=>b≠R) w5 a4 (ui s.1).length (df (ui s.1))):=HX4ss.out.kept hon.2 (fun _ q=>q)
   have HX5ey:Hid (OpsA (fun b=>b≠R) w5 a5 (y.1).length (df (y.1))):=uW hbod HR4.out.1.lt
   clear hbod hon;go_wp2_with fail;refine (uV _ _ 4 a4 a5 c4 c5 (ui s.1) (y.1) w5 HX5ss.out (Lil.small (uF (s:=s.1) (by omega)) (by omega)) HX5ey.out (Lil.small (lily) (by omega)) hney).mono ?_
   rintro e w6 ⟨a6,c6,rfl,hbod,hk⟩;have HE:Hid (DrB t R (uw 4 (ui s.1) (y.1),y.2) w (.returned (.slice a6 (uw 4 (ui s.1) (y.1)).length c6)) w6):=yj HR5.out hbod hk;clear hbod hk;go_wp2;go_ret;exact HE.out
  have b8':¬(q:Int)<13:=by omega
  rw[if_neg b8]at hp;by_cases b8a:q<16
  ·have b8a':(q:Int)<16:=by omega
   have b13n:¬(q:Int)<13:=by omega
   rw[if_pos b8a]at hp;obtain⟨x,hx⟩:∃p,vU t at_ rules labels d after j=p:=⟨_,rfl⟩;have lilx:Lil (big d) x.1:=hx▸vJ t at_ rules labels d after j;have hnex:0<x.1.length:=hx▸yz t at_ rules labels d after j;rw[hx]at hp;obtain⟨y,hy⟩:∃p,vU t at_ rules labels d after x.2=p:=⟨_,rfl⟩;have lily:Lil (big d) y.1:=hy▸vJ t at_ rules labels d after x.2;have hney:0<y.1.length:=hy▸yz t at_ rules labels d after x.2;rw[hy]at hp;by_cases b9:q=13
   ·have b9':(q:Int)=13:=by omega
    rw[if_pos b9]at hp;subst hp;go_wp2_with fail;refine (ih (dv-1) (by have:=HDV.out;omega) after j w2 x (by omega) HR2.out.1 hx).mono ?_
    rintro e w3 ⟨a3,c3,rfl,hbod,hon⟩;have HR3:Hid (RdOn t R x.2 w w3):=HR2.out.trans hon;have HX3ex:Hid (OpsA (fun b=>b≠R) w3 a3 (x.1).length (df (x.1))):=uW hbod HR2.out.1.lt
    clear hbod hon;go_wp2_with fail;refine (ih (dv-1) (by have:=HDV.out;omega) after x.2 w3 y (by omega) HR3.out.1 hy).mono ?_
    rintro e w4 ⟨a4,c4,rfl,hbod,hon⟩;have HR4:Hid (RdOn t R y.2 w w4):=HR3.out.trans hon;have HX4ex:Hid (OpsA (fun b=>b≠R) w4 a3 (x.1).length (df (x.1))):=HX3ex.out.kept hon.2 (fun _ q=>q)
    have HX4ey:Hid (OpsA (fun b=>b≠R) w4 a4 (y.1).length (df (y.1))):=uW hbod HR3.out.1.lt
    clear hbod hon;go_wp2_with fail;refine (uV _ _ 4 a3 a4 c3 c4 (x.1) (y.1) w4 HX4ex.out (Lil.small (lilx) (by omega)) HX4ey.out (Lil.small (lily) (by omega)) hney).mono ?_
    rintro e w5 ⟨a5,c5,rfl,hbod,hk⟩;have HE:Hid (DrB t R (uw 4 (x.1) (y.1),y.2) w (.returned (.slice a5 (uw 4 (x.1) (y.1)).length c5)) w5):=yj HR4.out hbod hk;clear hbod hk;go_wp2;go_ret;exact HE.out
   ·have b9':¬(q:Int)=13:=by omega
    rw[if_neg b9]at hp;subst hp;go_wp2_with fail;refine (ih (dv-1) (by have:=HDV.out;omega) after j w2 x (by omega) HR2.out.1 hx).mono ?_
    rintro e w3 ⟨a3,c3,rfl,hbod,hon⟩;have HR3:Hid (RdOn t R x.2 w w3):=HR2.out.trans hon;have HX3ex:Hid (OpsA (fun b=>b≠R) w3 a3 (x.1).length (df (x.1))):=uW hbod HR2.out.1.lt
    clear hbod hon;go_wp2_with fail;refine (ih (dv-1) (by have:=HDV.out;omega) after x.2 w3 y (by omega) HR3.out.1 hy).mono ?_
    rintro e w4 ⟨a4,c4,rfl,hbod,hon⟩;have HR4:Hid (RdOn t R y.2 w w4):=HR3.out.trans hon;have HX4ex:Hid (OpsA (fun b=>b≠R) w4 a3 (x.1).length (df (x.1))):=HX3ex.out.kept hon.2 (fun _ q=>q)
    have HX4ey:Hid (OpsA (fun b=>b≠R) w4 a4 (y.1).length (df (y.1))):=uW hbod HR3.out.1.lt
    clear hbod hon;go_wp2_with fail;refine (uV _ _ 5 a3 a4 c3 c4 (x.1) (y.1) w4 HX4ex.out (Lil.small (lilx) (by omega)) HX4ey.out (Lil.small (lily) (by omega)) hney).mono ?_
    rintro e w5 ⟨a5,c5,rfl,hbod,hk⟩;have HE:Hid (DrB t R (uw 5 (x.1) (y.1),y.2) w (.returned (.slice a5 (uw 5 (x.1) (y.1)).length c5)) w5):=yj HR4.out hbod hk;clear hbod hk;go_wp2;go_ret;exact HE.out
  have b8a':¬(q:Int)<16:=by omega
  have b13n:¬(q:Int)=13:=by omega
  rw[if_neg b8a]at hp;by_cases b10:q<18
  ·have b10':(q:Int)<18:=by omega
   rw[if_pos b10]at hp;obtain⟨s,hs⟩:∃p,yr t j=p:=⟨_,rfl⟩;have ucS:s.1.length≤4:=hs▸vw t j;rw[hs]at hp;have hv2:=t.v_le s.2;go_wp2_with fail;refine (uZ t R j w2 HR2.out.1 s hs).mono ?_;rintro e w3 ⟨as3,cs3,rfl,hI,hon⟩;have HR3:Hid (RdOn t R s.2 w w3):=HR2.out.trans hon;have HI3:Hid (Ints (fun b=>b≠R) .i64 w3 as3 s.1.length (lf s.1)):=hI
   clear hon hI;go_wp2_with fail;refine (uU _ as3 cs3 s.1 w3 HI3.out (by omega)).mono ?_
   rintro e w4 ⟨a4,c4,rfl,hbod,hk⟩;have HR4:Hid (RdOn t R s.2 w w4):=HR3.out.quiet hk;have HX4ss:Hid (OpsA (fun b=>b≠R) w4 a4 (ui s.1).length (df (ui s.1))):=uW hbod HR3.out.1.lt
   clear hbod hk;go_wp2_with fail;refine (uN t R s.2 w4 HR4.out.1).mono ?_;rintro e w5 ⟨rfl,hon⟩;have HR5:Hid (RdOn t R (t.n s.2) w w5):=HR4.out.trans hon;have HX5ss:Hid (OpsA (fun b=>b≠R) w5 a4 (ui s.1).length (df (ui s.1))):=HX4ss.out.kept hon.2 (fun _ q=>q)
   clear hon;generalize t.v s.2=kc at *;obtain⟨c,hc⟩:∃c:Nat,kc%3=c:=⟨_,rfl⟩;have hc':(kc:Int)%3=(c:Int):=by omega
   have hcl:c<3:=by omega
   rw[hc]at hp;clear hc;by_cases b11:c=0
   ·rw[if_pos b11]at hp
    subst hp b11;go_wp2_with fail;refine (vT _ 6 a4 c4 (ui s.1) w5 HX5ss.out (Lil.small (uF (s:=s.1) (by omega)) (by omega))).mono ?_
    rintro e w6 ⟨a6,c6,rfl,hbod,hk⟩;have HE:Hid (DrB t R (unD 6 (ui s.1),(t.n s.2)) w (.returned (.slice a6 (unD 6 (ui s.1)).length c6)) w6):=yj HR5.out hbod hk;clear hbod hk;go_wp2;go_ret;exact HE.out
   rw[if_neg b11]at hp;by_cases b12:c=1
   ·rw[if_pos b12]at hp
    subst b12;simp only[beq_self_eq_true]at hp;obtain⟨y,hy⟩:∃p,vU t at_ rules labels d true (t.n s.2)=p:=⟨_,rfl⟩;have lily:Lil (big d) y.1:=hy▸vJ t at_ rules labels d true (t.n s.2);have hney:0<y.1.length:=hy▸yz t at_ rules labels d true (t.n s.2);rw[hy]at hp;subst hp;go_wp2_with fail;refine (ih (dv-1) (by have:=HDV.out;omega) true (t.n s.2) w5 y (by omega) HR5.out.1 hy).mono ?_
    rintro e w6 ⟨a6,c6,rfl,hbod,hon⟩;have HR6:Hid (RdOn t R y.2 w w6):=HR5.out.trans hon;have HX6ss:Hid (OpsA (fun b=>b≠R) w6 a4 (ui s.1).length (df (ui s.1))):=HX5ss.out.kept hon.2 (fun _ q=>q)
    have HX6ey:Hid (OpsA (fun b=>b≠R) w6 a6 (y.1).length (df (y.1))):=uW hbod HR5.out.1.lt
    clear hbod hon;go_wp2_with fail;refine (uV _ _ 4 a4 a6 c4 c6 (ui s.1) (y.1) w6 HX6ss.out (Lil.small (uF (s:=s.1) (by omega)) (by omega)) HX6ey.out (Lil.small (lily) (by omega)) hney).mono ?_
    rintro e w7 ⟨a7,c7,rfl,hbod,hk⟩;have HR7:Hid (RdOn t R y.2 w w7):=HR6.out.quiet hk;have HX7ss:Hid (OpsA (fun b=>b≠R) w7 a4 (ui s.1).length (df (ui s.1))):=HX6ss.out.kept hk (fun _ _ q=>q)
    have HX7ey:Hid (OpsA (fun b=>b≠R) w7 a6 (y.1).length (df (y.1))):=HX6ey.out.kept hk (fun _ _ q=>q)
    have HX7b:Hid (OpsA (fun b=>b≠R) w7 a7 (uw 4 (ui s.1) (y.1)).length (df (uw 4 (ui s.1) (y.1)))):=uW hbod HR6.out.1.lt
    clear hbod hk;go_wp2_with fail;refine (vT _ 6 a7 c7 (uw 4 (ui s.1) (y.1)) w7 HX7b.out (Lil.small (vg 4 (uF (s:=s.1) (by omega)) (lily)) (by omega))).mono ?_
    rintro e w8 ⟨a8,c8,rfl,hbod,hk⟩;have HE:Hid (DrB t R (unD 6 (uw 4 (ui s.1) (y.1)),y.2) w (.returned (.slice a8 (unD 6 (uw 4 (ui s.1) (y.1))).length c8)) w8):=yj HR7.out hbod hk;clear hbod hk;go_wp2;go_ret;exact HE.out
   ·rw[if_neg b12]at hp
    obtain rfl:c=2:=by omega
    have e21:((2:Nat)==1)=false:=rfl;rw[e21]at hp;obtain⟨y,hy⟩:∃p,vU t at_ rules labels d false (t.n s.2)=p:=⟨_,rfl⟩;have lily:Lil (big d) y.1:=hy▸vJ t at_ rules labels d false (t.n s.2);have hney:0<y.1.length:=hy▸yz t at_ rules labels d false (t.n s.2);rw[hy]at hp;subst hp;go_wp2_with fail;refine (ih (dv-1) (by have:=HDV.out;omega) false (t.n s.2) w5 y (by omega) HR5.out.1 hy).mono ?_
    rintro e w6 ⟨a6,c6,rfl,hbod,hon⟩;have HR6:Hid (RdOn t R y.2 w w6):=HR5.out.trans hon;have HX6ss:Hid (OpsA (fun b=>b≠R) w6 a4 (ui s.1).length (df (ui s.1))):=HX5ss.out.kept hon.2 (fun _ q=>q)
    have HX6ey:Hid (OpsA (fun b=>b≠R) w6 a6 (y.1).length (df (y.1))):=uW hbod HR5.out.1.lt
    clear hbod hon;go_wp2_with fail;refine (vT _ 7 a6 c6 (y.1) w6 HX6ey.out (Lil.small (lily) (by omega))).mono ?_
    rintro e w7 ⟨a7,c7,rfl,hbod,hk⟩;have HR7:Hid (RdOn t R y.2 w w7):=HR6.out.quiet hk;have HX7ss:Hid (OpsA (fun b=>b≠R) w7 a4 (ui s.1).length (df (ui s.1))):=HX6ss.out.kept hk (fun _ _ q=>q)
    have HX7ey:Hid (OpsA (fun b=>b≠R) w7 a6 (y.1).length (df (y.1))):=HX6ey.out.kept hk (fun _ _ q=>q)
    have HX7n:Hid (OpsA (fun b=>b≠R) w7 a7 (unD 7 (y.1)).length (df (unD 7 (y.1)))):=uW hbod HR6.out.1.lt
    clear hbod hk;go_wp2_with fail;refine (uV _ _ 4 a7 a4 c7 c4 (unD 7 (y.1)) (ui s.1) w7 HX7n.out (Lil.small (ye 7 (lily)) (by omega)) HX7ss.out (Lil.small (uF (s:=s.1) (by omega)) (by omega)) (by simp[ui,uf,unD,uw])).mono ?_
    rintro e w8 ⟨a8,c8,rfl,hbod,hk⟩;have HR8:Hid (RdOn t R y.2 w w8):=HR7.out.quiet hk;have HX8ss:Hid (OpsA (fun b=>b≠R) w8 a4 (ui s.1).length (df (ui s.1))):=HX7ss.out.kept hk (fun _ _ q=>q)
    have HX8ey:Hid (OpsA (fun b=>b≠R) w8 a6 (y.1).length (df (y.1))):=HX7ey.out.kept hk (fun _ _ q=>q)
    have HX8n:Hid (OpsA (fun b=>b≠R) w8 a7 (unD 7 (y.1)).length (df (unD 7 (y.1)))):=HX7n.out.kept hk (fun _ _ q=>q)
    have HX8b:Hid (OpsA (fun b=>b≠R) w8 a8 (uw 4 (unD 7 (y.1)) (ui s.1)).length (df (uw 4 (unD 7 (y.1)) (ui s.1)))):=uW hbod HR7.out.1.lt
    clear hbod hk;go_wp2_with fail;refine (vT _ 6 a8 c8 (uw 4 (unD 7 (y.1)) (ui s.1)) w8 HX8b.out (Lil.small (vg 4 (ye 7 (lily)) (uF (s:=s.1) (by omega))) (by omega))).mono ?_
    rintro e w9 ⟨a9,c9,rfl,hbod,hk⟩;have HE:Hid (DrB t R (unD 6 (uw 4 (unD 7 (y.1)) (ui s.1)),y.2) w (.returned (.slice a9 (unD 6 (uw 4 (unD 7 (y.1)) (ui s.1))).length c9)) w9):=yj HR8.out hbod hk;clear hbod hk;go_wp2;go_ret;exact HE.out
  have b10':¬(q:Int)<18:=by omega
  rw[if_neg b10]at hp;by_cases b13:q=18
  ·have b13':(q:Int)=18:=by omega
   rw[if_pos b13]at hp;obtain⟨y,hy⟩:∃p,vU t at_ rules labels d after j=p:=⟨_,rfl⟩;have lily:Lil (big d) y.1:=hy▸vJ t at_ rules labels d after j;have hney:0<y.1.length:=hy▸yz t at_ rules labels d after j;rw[hy]at hp;subst hp;go_wp2_with fail;refine (ih (dv-1) (by have:=HDV.out;omega) after j w2 y (by omega) HR2.out.1 hy).mono ?_
   rintro e w3 ⟨a3,c3,rfl,hbod,hon⟩;have HR3:Hid (RdOn t R y.2 w w3):=HR2.out.trans hon;have HX3ey:Hid (OpsA (fun b=>b≠R) w3 a3 (y.1).length (df (y.1))):=uW hbod HR2.out.1.lt
   clear hbod hon;go_wp2_with fail;refine (vT _ 7 a3 c3 (y.1) w3 HX3ey.out (Lil.small (lily) (by omega))).mono ?_
   rintro e w4 ⟨a4,c4,rfl,hbod,hk⟩;have HE:Hid (DrB t R (unD 7 (y.1),y.2) w (.returned (.slice a4 (unD 7 (y.1)).length c4)) w4):=yj HR3.out hbod hk;clear hbod hk;go_wp2;go_ret;exact HE.out
  have b13':¬(q:Int)=18:=by omega
  rw[if_neg b13]at hp;by_cases b14:0<t.v j%4
  ·have b14':(0:Int)<(t.v j:Int)%4:=by omega
   rw[if_pos b14]at hp;have hv2:=t.v_le j;obtain⟨s,hs⟩:∃p,yr t (t.n j)=p:=⟨_,rfl⟩;have ucS:s.1.length≤4:=hs▸vw t (t.n j);rw[hs]at hp;obtain⟨y,hy⟩:∃p,vU t at_ rules labels d true s.2=p:=⟨_,rfl⟩;have lily:Lil (big d) y.1:=hy▸vJ t at_ rules labels d true s.2;have hney:0<y.1.length:=hy▸yz t at_ rules labels d true s.2;rw[hy]at hp;subst hp;go_wp2_with fail;refine (uN t R j w2 HR2.out.1).mono ?_;rintro e w3 ⟨rfl,hon⟩;have HR3:Hid (RdOn t R (t.n j) w w3):=HR2.out.trans hon;clear hon;generalize t.v j=kj at *;go_wp2_with fail;refine (uZ t R (t.n j) w3 HR3.out.1 s hs).mono ?_;rintro e w4 ⟨as4,cs4,rfl,hI,hon⟩;have HR4:Hid (RdOn t R s.2 w w4):=HR3.out.trans hon;have HI4:Hid (Ints (fun b=>b≠R) .i64 w4 as4 s.1.length (lf s.1)):=hI
   clear hon hI;go_wp2_with fail;refine (uU _ as4 cs4 s.1 w4 HI4.out (by omega)).mono ?_
   rintro e w5 ⟨a5,c5,rfl,hbod,hk⟩;have HR5:Hid (RdOn t R s.2 w w5):=HR4.out.quiet hk;have HX5ss:Hid (OpsA (fun b=>b≠R) w5 a5 (ui s.1).length (df (ui s.1))):=uW hbod HR4.out.1.lt
   clear hbod hk;go_wp2_with fail;refine (ih (dv-1) (by have:=HDV.out;omega) true s.2 w5 y (by omega) HR5.out.1 hy).mono ?_
   rintro e w6 ⟨a6,c6,rfl,hbod,hon⟩;have HR6:Hid (RdOn t R y.2 w w6):=HR5.out.trans hon;have HX6ss:Hid (OpsA (fun b=>b≠R) w6 a5 (ui s.1).length (df (ui s.1))):=HX5ss.out.kept hon.2 (fun _ q=>q)
   have HX6ey:Hid (OpsA (fun b=>b≠R) w6 a6 (y.1).length (df (y.1))):=uW hbod HR5.out.1.lt
   clear hbod hon;go_wp2_with fail;refine (uV _ _ 4 a5 a6 c5 c6 (ui s.1) (y.1) w6 HX6ss.out (Lil.small (uF (s:=s.1) (by omega)) (by omega)) HX6ey.out (Lil.small (lily) (by omega)) hney).mono ?_
   rintro e w7 ⟨a7,c7,rfl,hbod,hk⟩;have HR7:Hid (RdOn t R y.2 w w7):=HR6.out.quiet hk;have HX7ss:Hid (OpsA (fun b=>b≠R) w7 a5 (ui s.1).length (df (ui s.1))):=HX6ss.out.kept hk (fun _ _ q=>q)
   have HX7ey:Hid (OpsA (fun b=>b≠R) w7 a6 (y.1).length (df (y.1))):=HX6ey.out.kept hk (fun _ _ q=>q)
   have HX7b:Hid (OpsA (fun b=>b≠R) w7 a7 (uw 4 (ui s.1) (y.1)).length (df (uw 4 (ui s.1) (y.1)))):=uW hbod HR6.out.1.lt
   clear hbod hk;go_wp2_with fail;refine (uV _ _ 5 a5 a7 c5 c7 (ui s.1) (uw 4 (ui s.1) (y.1)) w7 HX7ss.out (Lil.small (uF (s:=s.1) (by omega)) (by omega)) HX7b.out (Lil.small (vg 4 (uF (s:=s.1) (by omega)) (lily)) (by omega)) (by simp[ui,uf,unD,uw])).mono ?_
   rintro e w8 ⟨a8,c8,rfl,hbod,hk⟩;have HR8:Hid (RdOn t R y.2 w w8):=HR7.out.quiet hk;have HX8ss:Hid (OpsA (fun b=>b≠R) w8 a5 (ui s.1).length (df (ui s.1))):=HX7ss.out.kept hk (fun _ _ q=>q)
   have HX8ey:Hid (OpsA (fun b=>b≠R) w8 a6 (y.1).length (df (y.1))):=HX7ey.out.kept hk (fun _ _ q=>q)
   have HX8b:Hid (OpsA (fun b=>b≠R) w8 a7 (uw 4 (ui s.1) (y.1)).length (df (uw 4 (ui s.1) (y.1)))):=HX7b.out.kept hk (fun _ _ q=>q)
   have HX8c:Hid (OpsA (fun b=>b≠R) w8 a8 (uw 5 (ui s.1) (uw 4 (ui s.1) (y.1))).length (df (uw 5 (ui s.1) (uw 4 (ui s.1) (y.1))))):=uW hbod HR7.out.1.lt
   clear hbod hk;go_wp2_with fail;refine (vT _ 6 a8 c8 (uw 5 (ui s.1) (uw 4 (ui s.1) (y.1))) w8 HX8c.out (Lil.small (vg 5 (uF (s:=s.1) (by omega)) (vg 4 (uF (s:=s.1) (by omega)) (lily))) (by omega))).mono ?_
   rintro e w9 ⟨a9,c9,rfl,hbod,hk⟩;have HE:Hid (DrB t R (unD 6 (uw 5 (ui s.1) (uw 4 (ui s.1) (y.1))),y.2) w (.returned (.slice a9 (unD 6 (uw 5 (ui s.1) (uw 4 (ui s.1) (y.1)))).length c9)) w9):=yj HR8.out hbod hk;clear hbod hk;go_wp2;go_ret;exact HE.out
  have b14':¬(0:Int)<(t.v j:Int)%4:=by omega
  rw[if_neg b14]at hp;have hv2:=t.v_le j;obtain⟨y,hy⟩:∃p,vU t at_ rules labels d after (t.n j)=p:=⟨_,rfl⟩;have lily:Lil (big d) y.1:=hy▸vJ t at_ rules labels d after (t.n j);have hney:0<y.1.length:=hy▸yz t at_ rules labels d after (t.n j);rw[hy]at hp;subst hp;go_wp2_with fail;refine (uN t R j w2 HR2.out.1).mono ?_;rintro e w3 ⟨rfl,hon⟩;have HR3:Hid (RdOn t R (t.n j) w w3):=HR2.out.trans hon;clear hon;generalize t.v j=kj at *;go_wp2_with fail;refine (ih (dv-1) (by have:=HDV.out;omega) after (t.n j) w3 y (by omega) HR3.out.1 hy).mono ?_
  rintro e w4 ⟨a4,c4,rfl,hbod,hon⟩;have HR4:Hid (RdOn t R y.2 w w4):=HR3.out.trans hon;have HX4ey:Hid (OpsA (fun b=>b≠R) w4 a4 (y.1).length (df (y.1))):=uW hbod HR3.out.1.lt
  clear hbod hon;go_wp2_with fail;refine (vT _ 6 a4 c4 (y.1) w4 HX4ey.out (Lil.small (lily) (by omega))).mono ?_
  rintro e w5 ⟨a5,c5,rfl,hbod,hk⟩;have HE:Hid (DrB t R (unD 6 (y.1),y.2) w (.returned (.slice a5 (unD 6 (y.1)).length c5)) w5):=yj HR4.out hbod hk;clear hbod hk;go_wp2;go_ret;exact HE.out
end
section
open Go.RowKit
open M (OpD uj Gr)
theorem yZ{P:Program}{ops:Array Oper}{o:Oper}{a:Act}{w:World}{K:Act→World→Prop}{P':Exit→Act→World→Prop}{E:Prop}{f:FuncId}(hf:∀args w,(callFunc f args).run P w=.ok (.enter f args) w)(hgd:o.guard=none)(x1:Operand)(t1:TypeId)
  (ho:o.op=.call { callee:=.value (.func f),args:=#[x1],argTypes:=#[t1] }) {y1:Value} (hx1:a.eval x1=y1) (h:Calls P f #[y1] w (fun e w'=>∃u,e=.returned u∧K (a.put o.dst u) w')):if Region.wanted o (yielded ops a.tmps)=true then Oper.wp P o a w K P' else E:=by
 have hw:Region.wanted o (yielded ops a.tmps)=true:=by simp[Region.wanted,hgd]
 rw[if_pos hw];have hrun:(execOp a.eval o).run P w=.ok (.enter f #[y1]) w:=by
  have e:a.eval (.func f)=.func (.func f) #[] #[]:=rfl;unfold execOp;simp only[ho,resolve,invoke,Deferred.ofValue,Sem.run_bind,Sem.run_pure,Result.andThen_ok,List.map_toArray,List.map_cons,List.map_nil,hx1,e];exact hf #[y1] w
 unfold Oper.wp;rw[hrun];refine Calls.mono h ?_;rintro e w' ⟨u,rfl,hk⟩;exact hk
theorem ym{P:Program}{ops:Array Oper}{o:Oper}{a:Act}{w:World}{K:Act→World→Prop}{P':Exit→Act→World→Prop}{E:Prop}{f:FuncId}(hf:∀args w,(callFunc f args).run P w=.ok (.enter f args) w)(hgd:o.guard=none)(x1 x2:Operand)(t1 t2:TypeId)
  (ho:o.op=.call { callee:=.value (.func f),args:=#[x1,x2],argTypes:=#[t1,t2] }) {y1 y2:Value} (hx1:a.eval x1=y1) (hx2:a.eval x2=y2) (h:Calls P f #[y1,y2] w (fun e w'=>∃u,e=.returned u∧K (a.put o.dst u) w')):if Region.wanted o (yielded ops a.tmps)=true then Oper.wp P o a w K P' else E:=by
 have hw:Region.wanted o (yielded ops a.tmps)=true:=by simp[Region.wanted,hgd]
 rw[if_pos hw];have hrun:(execOp a.eval o).run P w=.ok (.enter f #[y1,y2]) w:=by
  have e:a.eval (.func f)=.func (.func f) #[] #[]:=rfl;unfold execOp;simp only[ho,resolve,invoke,Deferred.ofValue,Sem.run_bind,Sem.run_pure,Result.andThen_ok,List.map_toArray,List.map_cons,List.map_nil,hx1,hx2,e];exact hf #[y1,y2] w
 unfold Oper.wp;rw[hrun];refine Calls.mono h ?_;rintro e w' ⟨u,rfl,hk⟩;exact hk
theorem jm{P:Program}{ops:Array Oper}{o:Oper}{a:Act}{w:World}{K:Act→World→Prop}{P':Exit→Act→World→Prop}{E:Prop}{f:FuncId}(hf:∀args w,(callFunc f args).run P w=.ok (.enter f args) w)(hgd:o.guard=none)(x1 x2 x3:Operand)(t1 t2 t3:TypeId)
  (ho:o.op=.call { callee:=.value (.func f),args:=#[x1,x2,x3],argTypes:=#[t1,t2,t3] }) {y1 y2 y3:Value} (hx1:a.eval x1=y1) (hx2:a.eval x2=y2) (hx3:a.eval x3=y3) (h:Calls P f #[y1,y2,y3] w (fun e w'=>∃u,e=.returned u∧K (a.put o.dst u) w')):if Region.wanted o (yielded ops a.tmps)=true then Oper.wp P o a w K P' else E:=by
 have hw:Region.wanted o (yielded ops a.tmps)=true:=by simp[Region.wanted,hgd]
 rw[if_pos hw];have hrun:(execOp a.eval o).run P w=.ok (.enter f #[y1,y2,y3]) w:=by
  have e:a.eval (.func f)=.func (.func f) #[] #[]:=rfl;unfold execOp;simp only[ho,resolve,invoke,Deferred.ofValue,Sem.run_bind,Sem.run_pure,Result.andThen_ok,List.map_toArray,List.map_cons,List.map_nil,hx1,hx2,hx3,e];exact hf #[y1,y2,y3] w
 unfold Oper.wp;rw[hrun];refine Calls.mono h ?_;rintro e w' ⟨u,rfl,hk⟩;exact hk
theorem ue2{α:Type}(f:α→List Value)(k:Nat)(h:∀x,(f x).length=k):∀(l:List α) (j:Nat),(l.take j).flatMap f=(l.flatMap f).take (j*k)
 | [],j=>by simp
 |x::l,0=>by simp
 |x::l,j+1=>by
  rw[List.take_succ_cons,List.flatMap_cons,List.flatMap_cons,ue2 f k h l j,List.take_append,h x,show (j+1)*k-k=j*k by rw[Nat.add_mul];omega,List.take_of_length_le (l:=f x) (by rw[h x,Nat.add_mul];omega)]
theorem ul7{Q:Nat→Prop}{w:World}{a:Option Addr}{sz n c:Nat}{cs:List Value}(h:OwnC Q w (.slice a n c) sz n cs){j:Nat}(hj:j≤n):OwnC Q w (.slice a j c) sz j (cs.take (j*sz)):=by
 rcases h with⟨e,e1,e2⟩|⟨g,cap,e,hq,h3,h4,h5,h6⟩
 ·obtain rfl:j=0:=by omega
  subst e1;exact .inl ⟨e,rfl,by rw[e2];simp⟩
 ·obtain⟨rfl,rfl⟩:a=some ⟨g,0,none⟩∧c=cap:=by injection e with e1 e2 e3;exact⟨e1,e3⟩
  have hm:j*sz≤n*sz:=Nat.mul_le_mul_right _ hj;refine .inr ⟨g,c,rfl,hq,by rw[List.length_take,h3];omega,by omega,fun i hi=>?_,h6⟩
  rw[List.length_take]at hi;rw[h5 i (by omega),List.getElem?_take_of_lt (by omega)]
theorem BodP.later{w w1 w':World}{v:Value}{D:List OpD}{C:Nat→Prop}(h:BodP (New w w1) w1 v D)(k:Keep C w1 w')(hC:∀b,C b→b<w.heap.size:=by intro b q;exact q.elim):BodP (New w w1) w' v D :=
 h.on (fun b hb=>k.block b hb.2 (fun q=>by have:=hC b q;have:=hb.1;omega))
end
end Go.Proofs.YthicmmhmmfhncaaGreat
