import Derived.Test.YtcbnnfnlilbjeaaGreatT44
set_option linter.unusedVariables false
set_option linter.unusedSimpArgs false
namespace Go.Proofs.YtcbnnfnlilbjeaaGreat
section
open Go.RowKit
open M (OpD NodeD Gr)
def DrB(t:Tp)(R:Nat)(p:List OpD×Nat)(w:World)(e:Ending)(w':World):Prop :=
 ∃a c,e=.returned (.slice a p.1.length c)∧BodP (New w w') w' (.slice a p.1.length c) p.1∧RdOn t R p.2 w w'
theorem ops_ne{R:Nat}{w w':World}{a:Option Addr}{n c:Nat}{D:List OpD}(h:BodP (New w w') w' (.slice a n c) D)(hR:R<w.heap.size):OpsA (fun b=>b≠R) w' a D.length (df D) :=
 h.ops.wide (fun b hb e=>by have:=hb.1;omega)
theorem drb_mk{t:Tp}{R i:Nat}{w wk w':World}{a:Option Addr}{c:Nat}{D:List OpD}(h:RdOn t R i w wk)(hb:BodP (New wk w') w' (.slice a D.length c) D)(hk:Keep (fun _=>False) wk w'):DrB t R (D,i) w (.returned (.slice a D.length c)) w' :=
 ⟨a,c,rfl,hb.wide (fun b q=>⟨by have:=h.le;have:=q.1;omega,q.2⟩),h.quiet hk⟩
theorem big_le{d:Nat}(h:d≤5):big d≤200:=by
 match d,h with
 |0,_=>decide
 |1,_=>decide
 |2,_=>decide
 |3,_=>decide
 |4,_=>decide
 |5,_=>decide
theorem drawE_ne(t:Tp)(at_ rules labels:Nat):∀(d:Nat) (after:Bool) (i:Nat),0<(drawE t at_ rules labels d after i).1.length
 |0,_,i=>by rw[drawE];simp[setD]
 |d+1,after,i=>by
  rw[drawE];dsimp only
  repeat' split
  all_goals first|(simp[setD,leafD,unD,binD];done)|(simp[setD,leafD,unD,binD];omega)
set_option maxRecDepth 100000 in
set_option maxHeartbeats 40000000 in
theorem l2drawExpr_any(t:Tp)(R at_ rules labels:Nat)(hl1:at_≤100)(hl2:rules≤100)(hl3:labels≤100):∀(d:Nat) (dv:Int) (hdv:dv=(d:Int)) (after:Bool) (i:Nat) (w:World) (p:List OpD×Nat),d≤5→RdA t R w i→drawE t at_ rules labels d after i=p →
  Calls Tryz.prog 56 #[.pointer (some ⟨R,0,none⟩),.int .i64 dv,.int .i64 at_,.int .i64 rules,.int .i64 labels,.bool after] w (DrB t R p w):=by
 intro d;induction d with
 |zero =>
  intro dv hdv after i w p hd h hp;have hv:=t.v_le i;have hdv0:dv≤0:=by omega
  obtain rfl:dv=0:=by omega
  clear hdv hdv0;go_enter Tryz.func56,Tryz.ntmps56;go_wp2_with fail;refine (next_any t R i w h).mono ?_;rintro e w1 ⟨rfl,hon⟩;have HR1:Hid (RdOn t R (t.n i) w w1):=hon;clear hon h;generalize t.v i=k at *;rw[drawE]at hp;obtain⟨s,hs⟩:∃p,drawS t (t.n i)=p:=⟨_,rfl⟩;have lens:s.1.length≤4:=hs▸drawS_len t (t.n i);rw[hs]at hp;subst hp;go_wp2_with fail;refine (l2drawSet_any t R (t.n i) w1 HR1.out.1 s hs).mono ?_;rintro e w2 ⟨as2,cs2,rfl,hI,hon⟩;have HR2:Hid (RdOn t R s.2 w w2):=HR1.out.trans hon;have HI2:Hid (Ints (fun b=>b≠R) .i64 w2 as2 s.1.length (lf s.1)):=hI
  clear hon hI;go_wp2_with fail;refine (l2set_any _ as2 cs2 s.1 w2 HI2.out (by omega)).mono ?_
  rintro e w3 ⟨a3,c3,rfl,hbod,hk⟩;have HE:Hid (DrB t R (setD s.1,s.2) w (.returned (.slice a3 (setD s.1).length c3)) w3):=drb_mk HR2.out hbod hk;clear hbod hk;go_wp2;go_ret;exact HE.out
 |succ d ih =>
  intro dv hdv after i w p hd h hp;have hv:=t.v_le i;have hbig:=big_le (d:=d) (by omega)
  have hdv1:¬dv≤0:=by omega
  have hdv2:dv≤5:=by omega
  have hdv3:decide (dv≤0)=false:=by simp;omega
  have HDV:Hid (dv=((d+1:Nat):Int)):=hdv;clear hdv;go_enter Tryz.func56,Tryz.ntmps56;go_wp2_with fail;refine (next_any t R i w h).mono ?_;rintro e w1 ⟨rfl,hon⟩;obtain⟨j,hj⟩:∃j,t.n i=j:=⟨_,rfl⟩;rw[hj]at hon;have HR1:Hid (RdOn t R j w w1):=hon;clear hon h;rw[drawE]at hp;dsimp only at hp;rw[hj]at hp;clear hj;generalize t.v i=k at *;obtain⟨q,hq⟩:∃q:Nat,k%20=q:=⟨_,rfl⟩;have hq':(k:Int)%20=(q:Int):=by omega
  have hql:q<20:=by omega
  rw[hq]at hp;clear hq;by_cases b1:q<4
  ·have b1':(q:Int)<4:=by omega
   rw[if_pos (Or.inl b1)]at hp;obtain⟨s,hs⟩:∃p,drawS t j=p:=⟨_,rfl⟩;have lens:s.1.length≤4:=hs▸drawS_len t j;rw[hs]at hp;subst hp;go_wp2_with fail;refine (l2drawSet_any t R j w1 HR1.out.1 s hs).mono ?_;rintro e w2 ⟨as2,cs2,rfl,hI,hon⟩;have HR2:Hid (RdOn t R s.2 w w2):=HR1.out.trans hon;have HI2:Hid (Ints (fun b=>b≠R) .i64 w2 as2 s.1.length (lf s.1)):=hI
   clear hon hI;go_wp2_with fail;refine (l2set_any _ as2 cs2 s.1 w2 HI2.out (by omega)).mono ?_
   rintro e w3 ⟨a3,c3,rfl,hbod,hk⟩;have HE:Hid (DrB t R (setD s.1,s.2) w (.returned (.slice a3 (setD s.1).length c3)) w3):=drb_mk HR2.out hbod hk;clear hbod hk;go_wp2;go_ret;exact HE.out
  have b1':¬(q:Int)<4:=by omega
  go_wp2_with fail;refine (left_any t R j w1 HR1.out.1).mono ?_;rintro e w2 ⟨rfl,hon⟩;have HR2:Hid (RdOn t R j w w2):=HR1.out.trans hon;have hjm:=HR2.out.1.le;clear hon;have htm:=t.le;by_cases b2:t.m=j
  ·have b2':(t.m:Int)-(j:Int)=0:=by omega
   rw[if_pos (Or.inr b2)]at hp;have c2:((t.m:Int)-(j:Int)==0)=true:=by simp;omega
   obtain⟨s,hs⟩:∃p,drawS t j=p:=⟨_,rfl⟩;have lens:s.1.length≤4:=hs▸drawS_len t j;rw[hs]at hp;subst hp;go_wp2_with fail;refine (l2drawSet_any t R j w2 HR2.out.1 s hs).mono ?_;rintro e w3 ⟨as3,cs3,rfl,hI,hon⟩;have HR3:Hid (RdOn t R s.2 w w3):=HR2.out.trans hon;have HI3:Hid (Ints (fun b=>b≠R) .i64 w3 as3 s.1.length (lf s.1)):=hI
   clear hon hI;go_wp2_with fail;refine (l2set_any _ as3 cs3 s.1 w3 HI3.out (by omega)).mono ?_
   rintro e w4 ⟨a4,c4,rfl,hbod,hk⟩;have HE:Hid (DrB t R (setD s.1,s.2) w (.returned (.slice a4 (setD s.1).length c4)) w4):=drb_mk HR3.out hbod hk;clear hbod hk;go_wp2;go_ret;exact HE.out
  have b2':¬(t.m:Int)-(j:Int)=0:=by omega
  have b2'':((t.m:Int)-(j:Int)==0)=false:=by simp;omega
  rw[if_neg (not_or.2 ⟨b1,b2⟩)]at hp;by_cases b3:q=4
  ·have b3':(q:Int)=4:=by omega
   rw[if_pos b3]at hp;subst hp;go_wp2_with fail;refine (l2leaf_any 0 0 w2).mono ?_;rintro e w3 ⟨a3,c3,rfl,hbod,hk⟩;have HE:Hid (DrB t R (leafD 0 0,j) w (.returned (.slice a3 (leafD 0 0).length c3)) w3):=drb_mk HR2.out hbod hk;clear hbod hk;go_wp2;go_ret;exact HE.out
  have b3':¬(q:Int)=4:=by omega
  rw[if_neg b3]at hp;by_cases b4:q<7
  ·have b4':(q:Int)<7:=by omega
   rw[if_pos b4]at hp;cases after with
   |true =>
    simp only[if_true,Nat.sub_zero,Nat.zero_add]at hp;by_cases b5:rules≤0
    ·have b5':(rules:Int)≤0:=by omega
     rw[if_pos b5]at hp;obtain⟨s,hs⟩:∃p,drawS t j=p:=⟨_,rfl⟩;have lens:s.1.length≤4:=hs▸drawS_len t j;rw[hs]at hp;subst hp;go_wp2_with fail;refine (l2drawSet_any t R j w2 HR2.out.1 s hs).mono ?_;rintro e w3 ⟨as3,cs3,rfl,hI,hon⟩;have HR3:Hid (RdOn t R s.2 w w3):=HR2.out.trans hon;have HI3:Hid (Ints (fun b=>b≠R) .i64 w3 as3 s.1.length (lf s.1)):=hI
     clear hon hI;go_wp2_with fail;refine (l2set_any _ as3 cs3 s.1 w3 HI3.out (by omega)).mono ?_
     rintro e w4 ⟨a4,c4,rfl,hbod,hk⟩;have HE:Hid (DrB t R (setD s.1,s.2) w (.returned (.slice a4 (setD s.1).length c4)) w4):=drb_mk HR3.out hbod hk;clear hbod hk;go_wp2;go_ret;exact HE.out
    have b5':¬(rules:Int)≤0:=by omega
    rw[if_neg b5]at hp;have hv2:=t.v_le j;have hnz:¬(rules:Int)=0:=by omega
    have hm:((t.v j%rules:Nat):Int)=(t.v j:Int)%(rules:Int):=by omega
    rw[hm]at hp;clear hm;subst hp;go_wp2_with fail;refine (next_any t R j w2 HR2.out.1).mono ?_;rintro e w3 ⟨rfl,hon⟩;have HR3:Hid (RdOn t R (t.n j) w w3):=HR2.out.trans hon;clear hon;generalize t.v j=kj at *;obtain⟨e9,he9⟩:∃e:Nat,kj%rules=e:=⟨_,rfl⟩;have hm9:(kj:Int)%(rules:Int)=(e9:Int):=by rw[←he9];omega
    have hl9:e9<rules:=he9▸Nat.mod_lt kj (by omega)
    have hl9b:e9≤100:=by omega
    clear he9;go_wp2_with fail;refine (l2leaf_any 2 (e9:Int) w3).mono ?_;rintro e w4 ⟨a4,c4,rfl,hbod,hk⟩;have HE:Hid (DrB t R (leafD 2 (e9:Int),(t.n j)) w (.returned (.slice a4 (leafD 2 (e9:Int)).length c4)) w4):=drb_mk HR3.out hbod hk;clear hbod hk;go_wp2;go_ret;rw[hm9];exact HE.out
   |false =>
    simp only[Bool.false_eq_true,if_false]at hp;by_cases b5:rules≤(at_+1)
    ·have b5':(rules:Int)≤(at_:Int)+1:=by omega
     rw[if_pos b5]at hp;obtain⟨s,hs⟩:∃p,drawS t j=p:=⟨_,rfl⟩;have lens:s.1.length≤4:=hs▸drawS_len t j;rw[hs]at hp;subst hp;go_wp2_with fail;refine (l2drawSet_any t R j w2 HR2.out.1 s hs).mono ?_;rintro e w3 ⟨as3,cs3,rfl,hI,hon⟩;have HR3:Hid (RdOn t R s.2 w w3):=HR2.out.trans hon;have HI3:Hid (Ints (fun b=>b≠R) .i64 w3 as3 s.1.length (lf s.1)):=hI
     clear hon hI;go_wp2_with fail;refine (l2set_any _ as3 cs3 s.1 w3 HI3.out (by omega)).mono ?_
     rintro e w4 ⟨a4,c4,rfl,hbod,hk⟩;have HE:Hid (DrB t R (setD s.1,s.2) w (.returned (.slice a4 (setD s.1).length c4)) w4):=drb_mk HR3.out hbod hk;clear hbod hk;go_wp2;go_ret;exact HE.out
    have b5':¬(rules:Int)≤(at_:Int)+1:=by omega
    rw[if_neg b5]at hp;have hv2:=t.v_le j;obtain⟨r,hr⟩:∃r:Nat,rules-(at_+1)=r:=⟨_,rfl⟩;have hr0:0<r:=by omega
    have hr':(rules:Int)-((at_:Int)+1)=(r:Int):=by omega
    have hnz:¬(r:Int)=0:=by omega
    rw[hr]at hp;clear hr;have hm:((at_+1+t.v j%r:Nat):Int)=(at_:Int)+1+(t.v j:Int)%(r:Int):=by omega
    rw[hm]at hp;clear hm;subst hp;go_wp2_with fail;refine (next_any t R j w2 HR2.out.1).mono ?_;rintro e w3 ⟨rfl,hon⟩;have HR3:Hid (RdOn t R (t.n j) w w3):=HR2.out.trans hon;clear hon;generalize t.v j=kj at *;obtain⟨e9,he9⟩:∃e:Nat,kj%r=e:=⟨_,rfl⟩;have hm9:(kj:Int)%(r:Int)=(e9:Int):=by rw[←he9];omega
    have hl9:e9<r:=he9▸Nat.mod_lt kj (by omega)
    have hl9b:e9≤100:=by omega
    clear he9;go_wp2_with fail;refine (l2leaf_any 2 ((at_:Int)+1+(e9:Int)) w3).mono ?_;rintro e w4 ⟨a4,c4,rfl,hbod,hk⟩;have HE:Hid (DrB t R (leafD 2 ((at_:Int)+1+(e9:Int)),(t.n j)) w (.returned (.slice a4 (leafD 2 ((at_:Int)+1+(e9:Int))).length c4)) w4):=drb_mk HR3.out hbod hk;clear hbod hk;go_wp2;go_ret;rw[hm9];exact HE.out
  have b4':¬(q:Int)<7:=by omega
  rw[if_neg b4]at hp;by_cases b6a:q<9∧0<labels
  ·rw[if_pos b6a]at hp
   obtain⟨b6,b7⟩:=b6a;have b6':(q:Int)<9:=by omega
   have b7':(0:Int)<(labels:Int):=by omega
   have hnz:¬(labels:Int)=0:=by omega
   have hv2:=t.v_le j;have hm:((t.v j%labels:Nat):Int)=(t.v j:Int)%(labels:Int):=by omega
   rw[hm]at hp;clear hm;obtain⟨s,hs⟩:∃p,drawS t (t.n j)=p:=⟨_,rfl⟩;have lens:s.1.length≤4:=hs▸drawS_len t (t.n j);rw[hs]at hp;subst hp;go_wp2_with fail;refine (next_any t R j w2 HR2.out.1).mono ?_;rintro e w3 ⟨rfl,hon⟩;have HR3:Hid (RdOn t R (t.n j) w w3):=HR2.out.trans hon;clear hon;generalize t.v j=kj at *;obtain⟨e9,he9⟩:∃e:Nat,kj%labels=e:=⟨_,rfl⟩;have hm9:(kj:Int)%(labels:Int)=(e9:Int):=by rw[←he9];omega
   have hl9:e9<labels:=he9▸Nat.mod_lt kj (by omega)
   have hl9b:e9≤100:=by omega
   clear he9;go_wp2_with fail;refine (l2drawSet_any t R (t.n j) w3 HR3.out.1 s hs).mono ?_;rintro e w4 ⟨as4,cs4,rfl,hI,hon⟩;have HR4:Hid (RdOn t R s.2 w w4):=HR3.out.trans hon;have HI4:Hid (Ints (fun b=>b≠R) .i64 w4 as4 s.1.length (lf s.1)):=hI
   clear hon hI;go_wp2_with fail;refine (l2set_any _ as4 cs4 s.1 w4 HI4.out (by omega)).mono ?_
   rintro e w5 ⟨a5,c5,rfl,hbod,hk⟩;have HR5:Hid (RdOn t R s.2 w w5):=HR4.out.quiet hk;have HX5ss:Hid (OpsA (fun b=>b≠R) w5 a5 (setD s.1).length (df (setD s.1))):=ops_ne hbod HR4.out.1.lt
   clear hbod hk;go_wp2_with fail;refine (l2leaf_any 3 (e9:Int) w5).mono ?_;rintro e w6 ⟨a6,c6,rfl,hbod,hk⟩;have HR6:Hid (RdOn t R s.2 w w6):=HR5.out.quiet hk;have HX6ss:Hid (OpsA (fun b=>b≠R) w6 a5 (setD s.1).length (df (setD s.1))):=HX5ss.out.kept hk (fun _ _ q=>q)
   have HX6l:Hid (OpsA (fun b=>b≠R) w6 a6 (leafD 3 (e9:Int)).length (df (leafD 3 (e9:Int)))):=ops_ne hbod HR5.out.1.lt
   clear hbod hk;go_wp2_with fail;refine (l2bin_any _ _ 5 a5 a6 c5 c6 (setD s.1) (leafD 3 (e9:Int)) w6 HX6ss.out (Lil.small (lil_set (s:=s.1) (by omega)) (by omega)) HX6l.out (Lil.small (lil_leaf 3 (e9:Int)) (by omega)) (by simp[setD,leafD,unD,binD])).mono ?_
   rintro e w7 ⟨a7,c7,rfl,hbod,hk⟩;have HE:Hid (DrB t R (binD 5 (setD s.1) (leafD 3 (e9:Int)),s.2) w (.returned (.slice a7 (binD 5 (setD s.1) (leafD 3 (e9:Int))).length c7)) w7):=drb_mk HR6.out hbod hk;clear hbod hk;go_wp2;go_ret;rw[hm9];exact HE.out
  rw[if_neg b6a]at hp;have b6':¬((q:Int)<9∧(0:Int)<(labels:Int)):=by omega
  by_cases b7:q<9
  ·have b7':(q:Int)<9:=by omega
   have b7l:¬(0:Int)<(labels:Int):=by omega
   rw[if_pos (show q<13 by omega)]at hp
   have b8':(q:Int)<13:=by omega
   obtain⟨s,hs⟩:∃p,drawS t j=p:=⟨_,rfl⟩;have lens:s.1.length≤4:=hs▸drawS_len t j;rw[hs]at hp;obtain⟨y,hy⟩:∃p,drawE t at_ rules labels d true s.2=p:=⟨_,rfl⟩;have lily:Lil (big d) y.1:=hy▸drawE_lil t at_ rules labels d true s.2;have hney:0<y.1.length:=hy▸drawE_ne t at_ rules labels d true s.2;rw[hy]at hp;subst hp;go_wp2_with fail;refine (l2drawSet_any t R j w2 HR2.out.1 s hs).mono ?_;rintro e w3 ⟨as3,cs3,rfl,hI,hon⟩;have HR3:Hid (RdOn t R s.2 w w3):=HR2.out.trans hon;have HI3:Hid (Ints (fun b=>b≠R) .i64 w3 as3 s.1.length (lf s.1)):=hI
   clear hon hI;go_wp2_with fail;refine (l2set_any _ as3 cs3 s.1 w3 HI3.out (by omega)).mono ?_
   rintro e w4 ⟨a4,c4,rfl,hbod,hk⟩;have HR4:Hid (RdOn t R s.2 w w4):=HR3.out.quiet hk;have HX4ss:Hid (OpsA (fun b=>b≠R) w4 a4 (setD s.1).length (df (setD s.1))):=ops_ne hbod HR3.out.1.lt
   clear hbod hk;go_wp2_with fail;refine (ih (dv-1) (by have:=HDV.out;omega) true s.2 w4 y (by omega) HR4.out.1 hy).mono ?_
   rintro e w5 ⟨a5,c5,rfl,hbod,hon⟩;have HR5:Hid (RdOn t R y.2 w w5):=HR4.out.trans hon;have HX5ss:Hid (OpsA (fun b=>b≠R) w5 a4 (setD s.1).length (df (setD s.1))):=HX4ss.out.kept hon.2 (fun _ q=>q)
   have HX5ey:Hid (OpsA (fun b=>b≠R) w5 a5 (y.1).length (df (y.1))):=ops_ne hbod HR4.out.1.lt
   clear hbod hon;go_wp2_with fail;refine (l2bin_any _ _ 4 a4 a5 c4 c5 (setD s.1) (y.1) w5 HX5ss.out (Lil.small (lil_set (s:=s.1) (by omega)) (by omega)) HX5ey.out (Lil.small (lily) (by omega)) hney).mono ?_
   rintro e w6 ⟨a6,c6,rfl,hbod,hk⟩;have HE:Hid (DrB t R (binD 4 (setD s.1) (y.1),y.2) w (.returned (.slice a6 (binD 4 (setD s.1) (y.1)).length c6)) w6):=drb_mk HR5.out hbod hk;clear hbod hk;go_wp2;go_ret;exact HE.out
  have b7':¬(q:Int)<9:=by omega
  by_cases b8:q<13
  ·have b8':(q:Int)<13:=by omega
   rw[if_pos b8]at hp;obtain⟨s,hs⟩:∃p,drawS t j=p:=⟨_,rfl⟩;have lens:s.1.length≤4:=hs▸drawS_len t j;rw[hs]at hp;obtain⟨y,hy⟩:∃p,drawE t at_ rules labels d true s.2=p:=⟨_,rfl⟩;have lily:Lil (big d) y.1:=hy▸drawE_lil t at_ rules labels d true s.2;have hney:0<y.1.length:=hy▸drawE_ne t at_ rules labels d true s.2;rw[hy]at hp;subst hp;go_wp2_with fail;refine (l2drawSet_any t R j w2 HR2.out.1 s hs).mono ?_;rintro e w3 ⟨as3,cs3,rfl,hI,hon⟩;have HR3:Hid (RdOn t R s.2 w w3):=HR2.out.trans hon;have HI3:Hid (Ints (fun b=>b≠R) .i64 w3 as3 s.1.length (lf s.1)):=hI
   clear hon hI;go_wp2_with fail;refine (l2set_any _ as3 cs3 s.1 w3 HI3.out (by omega)).mono ?_
   rintro e w4 ⟨a4,c4,rfl,hbod,hk⟩;have HR4:Hid (RdOn t R s.2 w w4):=HR3.out.quiet hk;have HX4ss:Hid (OpsA (fun b=>b≠R) w4 a4 (setD s.1).length (df (setD s.1))):=ops_ne hbod HR3.out.1.lt
   clear hbod hk;go_wp2_with fail;refine (ih (dv-1) (by have:=HDV.out;omega) true s.2 w4 y (by omega) HR4.out.1 hy).mono ?_
   rintro e w5 ⟨a5,c5,rfl,hbod,hon⟩;have HR5:Hid (RdOn t R y.2 w w5):=HR4.out.trans hon;have HX5ss:Hid (OpsA (fun b=>b≠R) w5 a4 (setD s.1).length (df (setD s.1))):=HX4ss.out.kept hon.2 (fun _ q=>q)
   have HX5ey:Hid (OpsA (fun b=>b≠R) w5 a5 (y.1).length (df (y.1))):=ops_ne hbod HR4.out.1.lt
   clear hbod hon;go_wp2_with fail;refine (l2bin_any _ _ 4 a4 a5 c4 c5 (setD s.1) (y.1) w5 HX5ss.out (Lil.small (lil_set (s:=s.1) (by omega)) (by omega)) HX5ey.out (Lil.small (lily) (by omega)) hney).mono ?_
   rintro e w6 ⟨a6,c6,rfl,hbod,hk⟩;have HE:Hid (DrB t R (binD 4 (setD s.1) (y.1),y.2) w (.returned (.slice a6 (binD 4 (setD s.1) (y.1)).length c6)) w6):=drb_mk HR5.out hbod hk;clear hbod hk;go_wp2;go_ret;exact HE.out
  have b8':¬(q:Int)<13:=by omega
  rw[if_neg b8]at hp;by_cases b8a:q<16
  ·have b8a':(q:Int)<16:=by omega
   have b13n:¬(q:Int)<13:=by omega
   rw[if_pos b8a]at hp;obtain⟨x,hx⟩:∃p,drawE t at_ rules labels d after j=p:=⟨_,rfl⟩;have lilx:Lil (big d) x.1:=hx▸drawE_lil t at_ rules labels d after j;have hnex:0<x.1.length:=hx▸drawE_ne t at_ rules labels d after j;rw[hx]at hp;obtain⟨y,hy⟩:∃p,drawE t at_ rules labels d after x.2=p:=⟨_,rfl⟩;have lily:Lil (big d) y.1:=hy▸drawE_lil t at_ rules labels d after x.2;have hney:0<y.1.length:=hy▸drawE_ne t at_ rules labels d after x.2;rw[hy]at hp;by_cases b9:q=13
   ·have b9':(q:Int)=13:=by omega
    rw[if_pos b9]at hp;subst hp;go_wp2_with fail;refine (ih (dv-1) (by have:=HDV.out;omega) after j w2 x (by omega) HR2.out.1 hx).mono ?_
    rintro e w3 ⟨a3,c3,rfl,hbod,hon⟩;have HR3:Hid (RdOn t R x.2 w w3):=HR2.out.trans hon;have HX3ex:Hid (OpsA (fun b=>b≠R) w3 a3 (x.1).length (df (x.1))):=ops_ne hbod HR2.out.1.lt
    clear hbod hon;go_wp2_with fail;refine (ih (dv-1) (by have:=HDV.out;omega) after x.2 w3 y (by omega) HR3.out.1 hy).mono ?_
    rintro e w4 ⟨a4,c4,rfl,hbod,hon⟩;have HR4:Hid (RdOn t R y.2 w w4):=HR3.out.trans hon;have HX4ex:Hid (OpsA (fun b=>b≠R) w4 a3 (x.1).length (df (x.1))):=HX3ex.out.kept hon.2 (fun _ q=>q)
    have HX4ey:Hid (OpsA (fun b=>b≠R) w4 a4 (y.1).length (df (y.1))):=ops_ne hbod HR3.out.1.lt
    clear hbod hon;go_wp2_with fail;refine (l2bin_any _ _ 4 a3 a4 c3 c4 (x.1) (y.1) w4 HX4ex.out (Lil.small (lilx) (by omega)) HX4ey.out (Lil.small (lily) (by omega)) hney).mono ?_
    rintro e w5 ⟨a5,c5,rfl,hbod,hk⟩;have HE:Hid (DrB t R (binD 4 (x.1) (y.1),y.2) w (.returned (.slice a5 (binD 4 (x.1) (y.1)).length c5)) w5):=drb_mk HR4.out hbod hk;clear hbod hk;go_wp2;go_ret;exact HE.out
   ·have b9':¬(q:Int)=13:=by omega
    rw[if_neg b9]at hp;subst hp;go_wp2_with fail;refine (ih (dv-1) (by have:=HDV.out;omega) after j w2 x (by omega) HR2.out.1 hx).mono ?_
    rintro e w3 ⟨a3,c3,rfl,hbod,hon⟩;have HR3:Hid (RdOn t R x.2 w w3):=HR2.out.trans hon;have HX3ex:Hid (OpsA (fun b=>b≠R) w3 a3 (x.1).length (df (x.1))):=ops_ne hbod HR2.out.1.lt
    clear hbod hon;go_wp2_with fail;refine (ih (dv-1) (by have:=HDV.out;omega) after x.2 w3 y (by omega) HR3.out.1 hy).mono ?_
    rintro e w4 ⟨a4,c4,rfl,hbod,hon⟩;have HR4:Hid (RdOn t R y.2 w w4):=HR3.out.trans hon;have HX4ex:Hid (OpsA (fun b=>b≠R) w4 a3 (x.1).length (df (x.1))):=HX3ex.out.kept hon.2 (fun _ q=>q)
    have HX4ey:Hid (OpsA (fun b=>b≠R) w4 a4 (y.1).length (df (y.1))):=ops_ne hbod HR3.out.1.lt
    clear hbod hon;go_wp2_with fail;refine (l2bin_any _ _ 5 a3 a4 c3 c4 (x.1) (y.1) w4 HX4ex.out (Lil.small (lilx) (by omega)) HX4ey.out (Lil.small (lily) (by omega)) hney).mono ?_
    rintro e w5 ⟨a5,c5,rfl,hbod,hk⟩;have HE:Hid (DrB t R (binD 5 (x.1) (y.1),y.2) w (.returned (.slice a5 (binD 5 (x.1) (y.1)).length c5)) w5):=drb_mk HR4.out hbod hk;clear hbod hk;go_wp2;go_ret;exact HE.out
  have b8a':¬(q:Int)<16:=by omega
  have b13n:¬(q:Int)=13:=by omega
  rw[if_neg b8a]at hp;by_cases b10:q<18
  ·have b10':(q:Int)<18:=by omega
   rw[if_pos b10]at hp;obtain⟨s,hs⟩:∃p,drawS t j=p:=⟨_,rfl⟩;have lens:s.1.length≤4:=hs▸drawS_len t j;rw[hs]at hp;have hv2:=t.v_le s.2;go_wp2_with fail;refine (l2drawSet_any t R j w2 HR2.out.1 s hs).mono ?_;rintro e w3 ⟨as3,cs3,rfl,hI,hon⟩;have HR3:Hid (RdOn t R s.2 w w3):=HR2.out.trans hon;have HI3:Hid (Ints (fun b=>b≠R) .i64 w3 as3 s.1.length (lf s.1)):=hI
   clear hon hI;go_wp2_with fail;refine (l2set_any _ as3 cs3 s.1 w3 HI3.out (by omega)).mono ?_
   rintro e w4 ⟨a4,c4,rfl,hbod,hk⟩;have HR4:Hid (RdOn t R s.2 w w4):=HR3.out.quiet hk;have HX4ss:Hid (OpsA (fun b=>b≠R) w4 a4 (setD s.1).length (df (setD s.1))):=ops_ne hbod HR3.out.1.lt
   clear hbod hk;go_wp2_with fail;refine (next_any t R s.2 w4 HR4.out.1).mono ?_;rintro e w5 ⟨rfl,hon⟩;have HR5:Hid (RdOn t R (t.n s.2) w w5):=HR4.out.trans hon;have HX5ss:Hid (OpsA (fun b=>b≠R) w5 a4 (setD s.1).length (df (setD s.1))):=HX4ss.out.kept hon.2 (fun _ q=>q)
   clear hon;generalize t.v s.2=kc at *;obtain⟨c,hc⟩:∃c:Nat,kc%3=c:=⟨_,rfl⟩;have hc':(kc:Int)%3=(c:Int):=by omega
   have hcl:c<3:=by omega
   rw[hc]at hp;clear hc;by_cases b11:c=0
   ·rw[if_pos b11]at hp
    subst hp b11;go_wp2_with fail;refine (l2un_any _ 6 a4 c4 (setD s.1) w5 HX5ss.out (Lil.small (lil_set (s:=s.1) (by omega)) (by omega))).mono ?_
    rintro e w6 ⟨a6,c6,rfl,hbod,hk⟩;have HE:Hid (DrB t R (unD 6 (setD s.1),(t.n s.2)) w (.returned (.slice a6 (unD 6 (setD s.1)).length c6)) w6):=drb_mk HR5.out hbod hk;clear hbod hk;go_wp2;go_ret;exact HE.out
   rw[if_neg b11]at hp;by_cases b12:c=1
   ·rw[if_pos b12]at hp
    subst b12;simp only[beq_self_eq_true]at hp;obtain⟨y,hy⟩:∃p,drawE t at_ rules labels d true (t.n s.2)=p:=⟨_,rfl⟩;have lily:Lil (big d) y.1:=hy▸drawE_lil t at_ rules labels d true (t.n s.2);have hney:0<y.1.length:=hy▸drawE_ne t at_ rules labels d true (t.n s.2);rw[hy]at hp;subst hp;go_wp2_with fail;refine (ih (dv-1) (by have:=HDV.out;omega) true (t.n s.2) w5 y (by omega) HR5.out.1 hy).mono ?_
    rintro e w6 ⟨a6,c6,rfl,hbod,hon⟩;have HR6:Hid (RdOn t R y.2 w w6):=HR5.out.trans hon;have HX6ss:Hid (OpsA (fun b=>b≠R) w6 a4 (setD s.1).length (df (setD s.1))):=HX5ss.out.kept hon.2 (fun _ q=>q)
    have HX6ey:Hid (OpsA (fun b=>b≠R) w6 a6 (y.1).length (df (y.1))):=ops_ne hbod HR5.out.1.lt
    clear hbod hon;go_wp2_with fail;refine (l2bin_any _ _ 4 a4 a6 c4 c6 (setD s.1) (y.1) w6 HX6ss.out (Lil.small (lil_set (s:=s.1) (by omega)) (by omega)) HX6ey.out (Lil.small (lily) (by omega)) hney).mono ?_
    rintro e w7 ⟨a7,c7,rfl,hbod,hk⟩;have HR7:Hid (RdOn t R y.2 w w7):=HR6.out.quiet hk;have HX7ss:Hid (OpsA (fun b=>b≠R) w7 a4 (setD s.1).length (df (setD s.1))):=HX6ss.out.kept hk (fun _ _ q=>q)
    have HX7ey:Hid (OpsA (fun b=>b≠R) w7 a6 (y.1).length (df (y.1))):=HX6ey.out.kept hk (fun _ _ q=>q)
    have HX7b:Hid (OpsA (fun b=>b≠R) w7 a7 (binD 4 (setD s.1) (y.1)).length (df (binD 4 (setD s.1) (y.1)))):=ops_ne hbod HR6.out.1.lt
    clear hbod hk;go_wp2_with fail;refine (l2un_any _ 6 a7 c7 (binD 4 (setD s.1) (y.1)) w7 HX7b.out (Lil.small (lil_bin 4 (lil_set (s:=s.1) (by omega)) (lily)) (by omega))).mono ?_
    rintro e w8 ⟨a8,c8,rfl,hbod,hk⟩;have HE:Hid (DrB t R (unD 6 (binD 4 (setD s.1) (y.1)),y.2) w (.returned (.slice a8 (unD 6 (binD 4 (setD s.1) (y.1))).length c8)) w8):=drb_mk HR7.out hbod hk;clear hbod hk;go_wp2;go_ret;exact HE.out
   ·rw[if_neg b12]at hp
    obtain rfl:c=2:=by omega
    have e21:((2:Nat)==1)=false:=rfl;rw[e21]at hp;obtain⟨y,hy⟩:∃p,drawE t at_ rules labels d false (t.n s.2)=p:=⟨_,rfl⟩;have lily:Lil (big d) y.1:=hy▸drawE_lil t at_ rules labels d false (t.n s.2);have hney:0<y.1.length:=hy▸drawE_ne t at_ rules labels d false (t.n s.2);rw[hy]at hp;subst hp;go_wp2_with fail;refine (ih (dv-1) (by have:=HDV.out;omega) false (t.n s.2) w5 y (by omega) HR5.out.1 hy).mono ?_
    rintro e w6 ⟨a6,c6,rfl,hbod,hon⟩;have HR6:Hid (RdOn t R y.2 w w6):=HR5.out.trans hon;have HX6ss:Hid (OpsA (fun b=>b≠R) w6 a4 (setD s.1).length (df (setD s.1))):=HX5ss.out.kept hon.2 (fun _ q=>q)
    have HX6ey:Hid (OpsA (fun b=>b≠R) w6 a6 (y.1).length (df (y.1))):=ops_ne hbod HR5.out.1.lt
    clear hbod hon;go_wp2_with fail;refine (l2un_any _ 7 a6 c6 (y.1) w6 HX6ey.out (Lil.small (lily) (by omega))).mono ?_
    rintro e w7 ⟨a7,c7,rfl,hbod,hk⟩;have HR7:Hid (RdOn t R y.2 w w7):=HR6.out.quiet hk;have HX7ss:Hid (OpsA (fun b=>b≠R) w7 a4 (setD s.1).length (df (setD s.1))):=HX6ss.out.kept hk (fun _ _ q=>q)
    have HX7ey:Hid (OpsA (fun b=>b≠R) w7 a6 (y.1).length (df (y.1))):=HX6ey.out.kept hk (fun _ _ q=>q)
    have HX7n:Hid (OpsA (fun b=>b≠R) w7 a7 (unD 7 (y.1)).length (df (unD 7 (y.1)))):=ops_ne hbod HR6.out.1.lt
    clear hbod hk;go_wp2_with fail;refine (l2bin_any _ _ 4 a7 a4 c7 c4 (unD 7 (y.1)) (setD s.1) w7 HX7n.out (Lil.small (lil_un 7 (lily)) (by omega)) HX7ss.out (Lil.small (lil_set (s:=s.1) (by omega)) (by omega)) (by simp[setD,leafD,unD,binD])).mono ?_
    rintro e w8 ⟨a8,c8,rfl,hbod,hk⟩;have HR8:Hid (RdOn t R y.2 w w8):=HR7.out.quiet hk;have HX8ss:Hid (OpsA (fun b=>b≠R) w8 a4 (setD s.1).length (df (setD s.1))):=HX7ss.out.kept hk (fun _ _ q=>q)
    have HX8ey:Hid (OpsA (fun b=>b≠R) w8 a6 (y.1).length (df (y.1))):=HX7ey.out.kept hk (fun _ _ q=>q)
    have HX8n:Hid (OpsA (fun b=>b≠R) w8 a7 (unD 7 (y.1)).length (df (unD 7 (y.1)))):=HX7n.out.kept hk (fun _ _ q=>q)
    have HX8b:Hid (OpsA (fun b=>b≠R) w8 a8 (binD 4 (unD 7 (y.1)) (setD s.1)).length (df (binD 4 (unD 7 (y.1)) (setD s.1)))):=ops_ne hbod HR7.out.1.lt
    clear hbod hk;go_wp2_with fail;refine (l2un_any _ 6 a8 c8 (binD 4 (unD 7 (y.1)) (setD s.1)) w8 HX8b.out (Lil.small (lil_bin 4 (lil_un 7 (lily)) (lil_set (s:=s.1) (by omega))) (by omega))).mono ?_
    rintro e w9 ⟨a9,c9,rfl,hbod,hk⟩;have HE:Hid (DrB t R (unD 6 (binD 4 (unD 7 (y.1)) (setD s.1)),y.2) w (.returned (.slice a9 (unD 6 (binD 4 (unD 7 (y.1)) (setD s.1))).length c9)) w9):=drb_mk HR8.out hbod hk;clear hbod hk;go_wp2;go_ret;exact HE.out
  have b10':¬(q:Int)<18:=by omega
  rw[if_neg b10]at hp;by_cases b13:q=18
  ·have b13':(q:Int)=18:=by omega
   rw[if_pos b13]at hp;obtain⟨y,hy⟩:∃p,drawE t at_ rules labels d after j=p:=⟨_,rfl⟩;have lily:Lil (big d) y.1:=hy▸drawE_lil t at_ rules labels d after j;have hney:0<y.1.length:=hy▸drawE_ne t at_ rules labels d after j;rw[hy]at hp;subst hp;go_wp2_with fail;refine (ih (dv-1) (by have:=HDV.out;omega) after j w2 y (by omega) HR2.out.1 hy).mono ?_
   rintro e w3 ⟨a3,c3,rfl,hbod,hon⟩;have HR3:Hid (RdOn t R y.2 w w3):=HR2.out.trans hon;have HX3ey:Hid (OpsA (fun b=>b≠R) w3 a3 (y.1).length (df (y.1))):=ops_ne hbod HR2.out.1.lt
   clear hbod hon;go_wp2_with fail;refine (l2un_any _ 7 a3 c3 (y.1) w3 HX3ey.out (Lil.small (lily) (by omega))).mono ?_
   rintro e w4 ⟨a4,c4,rfl,hbod,hk⟩;have HE:Hid (DrB t R (unD 7 (y.1),y.2) w (.returned (.slice a4 (unD 7 (y.1)).length c4)) w4):=drb_mk HR3.out hbod hk;clear hbod hk;go_wp2;go_ret;exact HE.out
  have b13':¬(q:Int)=18:=by omega
  rw[if_neg b13]at hp;by_cases b14:0<t.v j%4
  ·have b14':(0:Int)<(t.v j:Int)%4:=by omega
   rw[if_pos b14]at hp;have hv2:=t.v_le j;obtain⟨s,hs⟩:∃p,drawS t (t.n j)=p:=⟨_,rfl⟩;have lens:s.1.length≤4:=hs▸drawS_len t (t.n j);rw[hs]at hp;obtain⟨y,hy⟩:∃p,drawE t at_ rules labels d true s.2=p:=⟨_,rfl⟩;have lily:Lil (big d) y.1:=hy▸drawE_lil t at_ rules labels d true s.2;have hney:0<y.1.length:=hy▸drawE_ne t at_ rules labels d true s.2;rw[hy]at hp;subst hp;go_wp2_with fail;refine (next_any t R j w2 HR2.out.1).mono ?_;rintro e w3 ⟨rfl,hon⟩;have HR3:Hid (RdOn t R (t.n j) w w3):=HR2.out.trans hon;clear hon;generalize t.v j=kj at *;go_wp2_with fail;refine (l2drawSet_any t R (t.n j) w3 HR3.out.1 s hs).mono ?_;rintro e w4 ⟨as4,cs4,rfl,hI,hon⟩;have HR4:Hid (RdOn t R s.2 w w4):=HR3.out.trans hon;have HI4:Hid (Ints (fun b=>b≠R) .i64 w4 as4 s.1.length (lf s.1)):=hI
   clear hon hI;go_wp2_with fail;refine (l2set_any _ as4 cs4 s.1 w4 HI4.out (by omega)).mono ?_
   rintro e w5 ⟨a5,c5,rfl,hbod,hk⟩;have HR5:Hid (RdOn t R s.2 w w5):=HR4.out.quiet hk;have HX5ss:Hid (OpsA (fun b=>b≠R) w5 a5 (setD s.1).length (df (setD s.1))):=ops_ne hbod HR4.out.1.lt
   clear hbod hk;go_wp2_with fail;refine (ih (dv-1) (by have:=HDV.out;omega) true s.2 w5 y (by omega) HR5.out.1 hy).mono ?_
   rintro e w6 ⟨a6,c6,rfl,hbod,hon⟩;have HR6:Hid (RdOn t R y.2 w w6):=HR5.out.trans hon;have HX6ss:Hid (OpsA (fun b=>b≠R) w6 a5 (setD s.1).length (df (setD s.1))):=HX5ss.out.kept hon.2 (fun _ q=>q)
   have HX6ey:Hid (OpsA (fun b=>b≠R) w6 a6 (y.1).length (df (y.1))):=ops_ne hbod HR5.out.1.lt
   clear hbod hon;go_wp2_with fail;refine (l2bin_any _ _ 4 a5 a6 c5 c6 (setD s.1) (y.1) w6 HX6ss.out (Lil.small (lil_set (s:=s.1) (by omega)) (by omega)) HX6ey.out (Lil.small (lily) (by omega)) hney).mono ?_
   rintro e w7 ⟨a7,c7,rfl,hbod,hk⟩;have HR7:Hid (RdOn t R y.2 w w7):=HR6.out.quiet hk;have HX7ss:Hid (OpsA (fun b=>b≠R) w7 a5 (setD s.1).length (df (setD s.1))):=HX6ss.out.kept hk (fun _ _ q=>q)
   have HX7ey:Hid (OpsA (fun b=>b≠R) w7 a6 (y.1).length (df (y.1))):=HX6ey.out.kept hk (fun _ _ q=>q)
   have HX7b:Hid (OpsA (fun b=>b≠R) w7 a7 (binD 4 (setD s.1) (y.1)).length (df (binD 4 (setD s.1) (y.1)))):=ops_ne hbod HR6.out.1.lt
   clear hbod hk;go_wp2_with fail;refine (l2bin_any _ _ 5 a5 a7 c5 c7 (setD s.1) (binD 4 (setD s.1) (y.1)) w7 HX7ss.out (Lil.small (lil_set (s:=s.1) (by omega)) (by omega)) HX7b.out (Lil.small (lil_bin 4 (lil_set (s:=s.1) (by omega)) (lily)) (by omega)) (by simp[setD,leafD,unD,binD])).mono ?_
   rintro e w8 ⟨a8,c8,rfl,hbod,hk⟩;have HR8:Hid (RdOn t R y.2 w w8):=HR7.out.quiet hk;have HX8ss:Hid (OpsA (fun b=>b≠R) w8 a5 (setD s.1).length (df (setD s.1))):=HX7ss.out.kept hk (fun _ _ q=>q)
   have HX8ey:Hid (OpsA (fun b=>b≠R) w8 a6 (y.1).length (df (y.1))):=HX7ey.out.kept hk (fun _ _ q=>q)
   have HX8b:Hid (OpsA (fun b=>b≠R) w8 a7 (binD 4 (setD s.1) (y.1)).length (df (binD 4 (setD s.1) (y.1)))):=HX7b.out.kept hk (fun _ _ q=>q)
   have HX8c:Hid (OpsA (fun b=>b≠R) w8 a8 (binD 5 (setD s.1) (binD 4 (setD s.1) (y.1))).length (df (binD 5 (setD s.1) (binD 4 (setD s.1) (y.1))))):=ops_ne hbod HR7.out.1.lt
   clear hbod hk;go_wp2_with fail;refine (l2un_any _ 6 a8 c8 (binD 5 (setD s.1) (binD 4 (setD s.1) (y.1))) w8 HX8c.out (Lil.small (lil_bin 5 (lil_set (s:=s.1) (by omega)) (lil_bin 4 (lil_set (s:=s.1) (by omega)) (lily))) (by omega))).mono ?_
   rintro e w9 ⟨a9,c9,rfl,hbod,hk⟩;have HE:Hid (DrB t R (unD 6 (binD 5 (setD s.1) (binD 4 (setD s.1) (y.1))),y.2) w (.returned (.slice a9 (unD 6 (binD 5 (setD s.1) (binD 4 (setD s.1) (y.1)))).length c9)) w9):=drb_mk HR8.out hbod hk;clear hbod hk;go_wp2;go_ret;exact HE.out
  have b14':¬(0:Int)<(t.v j:Int)%4:=by omega
  rw[if_neg b14]at hp;have hv2:=t.v_le j;obtain⟨y,hy⟩:∃p,drawE t at_ rules labels d after (t.n j)=p:=⟨_,rfl⟩;have lily:Lil (big d) y.1:=hy▸drawE_lil t at_ rules labels d after (t.n j);have hney:0<y.1.length:=hy▸drawE_ne t at_ rules labels d after (t.n j);rw[hy]at hp;subst hp;go_wp2_with fail;refine (next_any t R j w2 HR2.out.1).mono ?_;rintro e w3 ⟨rfl,hon⟩;have HR3:Hid (RdOn t R (t.n j) w w3):=HR2.out.trans hon;clear hon;generalize t.v j=kj at *;go_wp2_with fail;refine (ih (dv-1) (by have:=HDV.out;omega) after (t.n j) w3 y (by omega) HR3.out.1 hy).mono ?_
  rintro e w4 ⟨a4,c4,rfl,hbod,hon⟩;have HR4:Hid (RdOn t R y.2 w w4):=HR3.out.trans hon;have HX4ey:Hid (OpsA (fun b=>b≠R) w4 a4 (y.1).length (df (y.1))):=ops_ne hbod HR3.out.1.lt
  clear hbod hon;go_wp2_with fail;refine (l2un_any _ 6 a4 c4 (y.1) w4 HX4ey.out (Lil.small (lily) (by omega))).mono ?_
  rintro e w5 ⟨a5,c5,rfl,hbod,hk⟩;have HE:Hid (DrB t R (unD 6 (y.1),y.2) w (.returned (.slice a5 (unD 6 (y.1)).length c5)) w5):=drb_mk HR4.out hbod hk;clear hbod hk;go_wp2;go_ret;exact HE.out
end
end Go.Proofs.YtcbnnfnlilbjeaaGreat
