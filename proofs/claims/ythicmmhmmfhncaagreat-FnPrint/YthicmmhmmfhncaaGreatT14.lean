import Derived.Test.YthicmmhmmfhncaaGreatT09
import Derived.Test.YthicmmhmmfhncaaGreatT13
import Derived.Test.YthicmmhmmfhncaaGreatT10
set_option linter.unusedVariables false
set_option linter.unusedSimpArgs false
namespace Go.Proofs.YthicmmhmmfhncaaGreat
section
open Go.RowKit
open M (OpD uj Gr)
def xg:Nat→List OpD
 |0=>uf 0 0
 |k+1=>xg k++[opd 0 0]++[opd 5 0]
theorem jC(k:Nat):(xg k).length=2*k+1:=by
 induction k with
 |zero=>rfl
 |succ k ih=>rw[xg];simp[ih];omega
def uaO(n:Nat):List OpD:=if 2*((n-1) / 2)+1<n then xg ((n-1) / 2)++[opd 7 0] else xg ((n-1) / 2)
theorem uiQ{w wb V:World}{ba na:Option Addr}{bc nc:Nat}{D:List OpD}{z:List Int}{t:TypeId}(k1:Keep (fun _=>False) w wb)(hb:BodP (New w wb) wb (.slice ba D.length bc) D)(k2:Keep (fun _=>False) wb V)(hn:Ints (New wb V) .u8 V na z.length (lf z)) :
  ∃G,zGrP w G (V.alloc (.cells #[.slice na z.length nc,.slice ba D.length bc] t)) (.slice (some ⟨V.heap.size,0,none⟩) 1 1) (.slice none 0 0) [⟨⟨z,true,D⟩,na,nc,ba,bc⟩] []:=by
 have h1:=(zGrP.nil w).later k1 (fun _ e=>e.elim) 4 (Nat.le_refl _)
 have h2:=h1.later k2 (fun _ e=>e.elim) 2 k1.size
 have z1:=k1.size;have z2:=k2.size;have hbk:=World.alloc_heap_new V (.cells #[.slice na z.length nc,.slice ba D.length bc] t);have ha:=h2.addRule (x:=⟨⟨z,true,D⟩,na,nc,ba,bc⟩) (W4:=V.alloc (.cells #[.slice na z.length nc,.slice ba D.length bc] t)) (v4:=.slice (some ⟨V.heap.size,0,none⟩) 1 1) (by omega) (hn.wide (fun b q=>udF q)) ((hb.on (fun b q=>k2.block b q.2 (fun e=>e))).wide (fun b q=>⟨by have:=q.2;omega,by rw[uD q.2,xz q.1];rfl⟩)) ?_ ?_
 ·exact⟨_,ha⟩
 ·refine .inr ⟨V.heap.size,1,rfl,.inr (Nat.le_refl _),rfl,Nat.le_refl _,fun j hj=>?_,fun j hj=>⟨?_,?_⟩⟩
  ·simp only[World.cell?,hbk]
   match j,hj with
   |0,_=>rfl
   |1,_=>rfl
  ·simp only[World.cell?,hbk]
   match j,hj with
   |0,_=>rfl
   |1,_=>rfl
  ·simp only[World.frozen?,hbk]
   rfl
 ·exact⟨rfl,rfl,rfl,by simp,fun b hb _=>Below.heap_alloc V _ _ hb,fun b o hb=>World.frozen?_of_block (a:=⟨b,o,none⟩) (Below.heap_alloc V _ _ hb),fun b o h3 h4=>uiF V _ t b o h3 h4⟩
def wdI(w:World)(n:Nat)(v:Value)(wr:World):Prop :=
 ∃(k:Nat) (L:Nat→Nat) (l:List OC),(k=0∨2*k<n)∧Bod (New w wr) L wr v l∧l.map (·.d)=xg k∧Keep (fun _=>False) w wr
theorem ufK{w wr W4:World}{L:Nat→Nat}{l:List OC}{v v4:Value}{n:Nat}{x:Int}{o:Obj}{D:List OpD}(h:Bod (New w wr) L wr v l)(hD:l.map (·.d)=D)(hk:Keep (fun _=>False) w wr)(hn:l.length=n)
  (own:OwnC (fun b=>(New w wr b∧L b=0)∨(wr.alloc o).heap.size≤b) W4 v4 3 (n+1) (uA l++uA [⟨opd x 0,none,0⟩])) (g4:Grew (fun b=>New w wr b∧L b=0) (wr.alloc o) W4) (s4:W4.heap.size≤(wr.alloc o).heap.size+1) :
  ∃L4 l4,Bod (New w W4) L4 W4 v4 l4∧l4.map (·.d)=D++[opd x 0]∧Keep (fun _=>False) w W4∧l4.length=n+1 :=
 ⟨_,_,Bod.grow (L2:=fun _=>0) h hk.size (Keep.alloc _ _ _) (uiH x 0) (by rw[hn];exact own) g4 s4 (by simp),by rw[List.map_append,hD];rfl,qm (hk.trans (Keep.alloc _ _ _)) g4 (fun b q=>q.1.1),by rw[List.length_append,hn];rfl⟩
def DrW(z:List Int)(D:List OpD)(w:World)(e:Ending)(w':World):Prop :=
 ∃rv G x,e=.returned (.agg #[rv,.slice none 0 0])∧zGrP w G w' rv (.slice none 0 0) [x] []∧x.d=⟨z,true,D⟩∧Keep (fun _=>False) w w'
set_option maxRecDepth 100000 in
set_option maxHeartbeats 20000000 in
theorem uhX(n:Nat)(hn:n≤5000)(hn1:1≤n)(w:World):Calls Tryz.prog 54 #[.int .i64 (n:Int)] w (DrW [115] (uaO n) w):=by
 go_enter Tryz.func54,Tryz.ntmps54;go_wp2_with fail;have HTW:Hid (zTwo w.heap.size (w.alloc (.cells #[.slice none 0 0,.slice none 0 0] 26))):=ja w;have HK0:Hid (Keep (fun _=>False) w (w.alloc (.cells #[.slice none 0 0,.slice none 0 0] 26))):=Keep.alloc _ _ _
 generalize w.alloc (.cells #[.slice none 0 0,.slice none 0 0] 26)=W0 at *;refine (uG 0 0 W0).mono ?_;rintro e W1 ⟨a1,c1,rfl,⟨L1,l1,hb1,hl1⟩,hk1⟩;have HI:Hid (wdI W0 n (.slice a1 1 c1) W1):=⟨0,L1,l1,.inl rfl,hb1,hl1,hk1⟩;clear hb1 hl1 hk1;go_wp2_with fail;go_loopw [3] (fun v wr=>wdI W0 n v wr) (fun v _=>n-(match v with | .slice _ k _=>k | _=>0))
 case atStart=>exact HI.out
 case round =>
  obtain⟨k,L,l,hkn,hbod,hl,hkeep⟩:=hrel;have hlen:l.length=2*k+1:=by rw[←jC k,←hl,List.length_map]
  have ho:=hbod.own;rw[hlen]at ho;obtain⟨av,cv,rfl⟩:=um ho;have HB:Hid (Bod (New W0 wr) L wr (.slice av (2*k+1) cv) l):=hbod;have HL:Hid (l.map (·.d)=xg k∧l.length=2*k+1):=⟨hl,hlen⟩
  have HK:Hid (Keep (fun _=>False) W0 wr):=hkeep
  clear hbod hl hkeep hlen ho;by_cases hlt:2*k+1+1<n
  ·have hlt':2*(k:Int)+1+1<(n:Int):=by omega
   go_wp2_with (first|(at_builtin;refine uai rfl _ _ 37 37 rfl rfl rfl jk (Q:=fun b=>New W0 wr b∧L b=0) (n:=2*k+1) (cs:=uA l) (news:=uA [⟨opd 0 0,none,0⟩]) (by have h:=HB.out.own;rw[HL.out.2]at h;exact h.on (fun x hx=>Below.heap_alloc wr _ _ hx.1.2)) (jQ (World.alloc_heap_new wr _)) (by omega) ?_;intro v3 W3 hown hgrew hsz;obtain⟨L3,l3,hb3,hl3,hk3,hn3⟩:=ufK HB.out HL.out.1 HK.out HL.out.2 hown hgrew hsz;obtain⟨a3,c3,rfl⟩:=um hown;have HB3:Hid (Bod (New W0 W3) L3 W3 (.slice a3 (2*k+1+1) c3) l3):=hb3;have HL3:Hid (l3.map (·.d)=xg k++[opd 0 0]∧l3.length=2*k+1+1):=⟨hl3,hn3⟩;have HK3:Hid (Keep (fun _=>False) W0 W3):=hk3;clear hown hgrew hsz hb3 hl3 hk3 hn3)|(at_builtin;refine uai rfl _ _ 37 37 rfl rfl rfl jk (Q:=fun b=>New W0 W3 b∧L3 b=0) (n:=2*k+1+1) (cs:=uA l3) (news:=uA [⟨opd 5 0,none,0⟩]) (by have h:=HB3.out.own;rw[HL3.out.2]at h;exact h.on (fun x hx=>Below.heap_alloc W3 _ _ hx.1.2)) (jQ (World.alloc_heap_new W3 _)) (by omega) ?_;intro v4 W4 hown hgrew hsz;obtain⟨L4,l4,hb4,hl4,hk4,hn4⟩:=ufK HB3.out HL3.out.1 HK3.out HL3.out.2 hown hgrew hsz;obtain⟨a4,c4,rfl⟩:=um hown;have HB4:Hid (Bod (New W0 W4) L4 W4 (.slice a4 (2*k+1+1+1) c4) l4):=hb4;have HL4:Hid (l4.map (·.d)=xg k++[opd 0 0]++[opd 5 0]∧l4.length=2*k+1+1+1):=⟨hl4,hn4⟩;have HK4:Hid (Keep (fun _=>False) W0 W4):=hk4;clear hown hgrew hsz hb4 hl4 hk4 hn4))
   go_roundw;all_goals first
    |exact⟨k+1,L4,l4,.inr (by omega),HB4.out,HL4.out.1,HK4.out⟩
    | (simp;omega)
    |omega
  ·have hkk:(n-1) / 2=k:=by omega
   have hlt':¬2*(k:Int)+1+1<(n:Int):=by omega
   by_cases hq:2*k+1<n
   ·have hq':2*(k:Int)+1<(n:Int):=by omega
    have hD:uaO n=xg k++[opd 7 0]:=by unfold uaO;rw[hkk,if_pos hq]
    rw[hD];have hDl:(xg k++[opd 7 0]).length=2*k+1+1:=by rw[List.length_append,jC];rfl
    go_wp2_with (first|(at_builtin;refine uai rfl _ _ 37 37 rfl rfl rfl jk (Q:=fun b=>New W0 wr b∧L b=0) (n:=2*k+1) (cs:=uA l) (news:=uA [⟨opd 7 0,none,0⟩]) (by have h:=HB.out.own;rw[HL.out.2]at h;exact h.on (fun x hx=>Below.heap_alloc wr _ _ hx.1.2)) (jQ (World.alloc_heap_new wr _)) (by omega) ?_;intro v5 W5 hown hgrew hsz;obtain⟨L5,l5,hb5,hl5,hk5,hn5⟩:=ufK HB.out HL.out.1 HK.out HL.out.2 hown hgrew hsz;obtain⟨a5,c5,rfl⟩:=um hown;have HB5:Hid (Bod (New W0 W5) L5 W5 (.slice a5 (2*k+1+1) c5) l5):=hb5;have HL5:Hid (l5.map (·.d)=xg k++[opd 7 0]∧l5.length=2*k+1+1):=⟨hl5,hn5⟩;have HK5:Hid (Keep (fun _=>False) W0 W5):=hk5;clear hown hgrew hsz hb5 hl5 hk5 hn5)|(refine ual rfl _ rfl rfl ?_;intro V hV;have KV:Hid (Keep (fun _=>False) W5 V):=hV▸yG _ _;have HIV:Hid (Ints (New W5 V) .u8 V (some ⟨W5.heap.size,0,none⟩) 1 (lf [115])):=hV▸xB W5 [115] (by simp);have htw:=(HTW.out.keep HK5.out (fun e=>e)).keep KV.out (fun e=>e);obtain⟨t0,t1,f0,f1⟩:=htw;have hrl:=ub t0;clear hV))
    have hbp:BodP (New W0 W5) W5 (.slice a5 (xg k++[opd 7 0]).length c5) (xg k++[opd 7 0]):=by rw[hDl];exact⟨L5,l5,HB5.out,HL5.out.1⟩
    have hgo:=uiQ (nc:=1) (t:=39) HK5.out hbp KV.out (z:=[115]) HIV.out;obtain⟨G,hgr⟩:=hgo;have hsz:=HK0.out.size;have hrb:w.heap.size<W0.heap.size:=ub HTW.out.1;have hG:G w.heap.size=3:=hgr.tag hrb;have HO:=((hgr.set (o:=0) (u:=.slice (some ⟨V.heap.size,0,none⟩) 1 1) hG).set (o:=1) (u:=.slice none 0 0) hG).base hsz;have HKO:Keep (fun _=>False) w (((V.alloc (.cells #[.slice (some ⟨W5.heap.size,0,none⟩) 1 1,.slice a5 (2*k+1+1) c5] 39)).setCell ⟨w.heap.size,0,none⟩ (.slice (some ⟨V.heap.size,0,none⟩) 1 1)).setCell ⟨w.heap.size,1,none⟩ (.slice none 0 0)):=yQ (yQ (((HK0.out.trans HK5.out).trans KV.out).trans (Keep.alloc _ _ _)) (Nat.le_refl _)) (Nat.le_refl _)
    refine bodyPost_ret (v:=.agg #[.slice (some ⟨V.heap.size,0,none⟩) 1 1,.slice none 0 0]) ?_ rfl ?_
    ·simp[results,Tryz.f54,go_sem, *]
    ·have hrv:w.heap.size<V.heap.size:=hrl
     have hcm:((V.alloc (.cells #[.slice (some ⟨W5.heap.size,0,none⟩) 1 1,.slice a5 (2*k+1+1) c5] 39)).setCell ⟨w.heap.size,0,none⟩ (.slice (some ⟨V.heap.size,0,none⟩) 1 1)).setCell ⟨w.heap.size,1,none⟩ (.slice none 0 0)=((V.setCell ⟨w.heap.size,0,none⟩ (.slice (some ⟨V.heap.size,0,none⟩) 1 1)).setCell ⟨w.heap.size,1,none⟩ (.slice none 0 0)).alloc (.cells #[.slice (some ⟨W5.heap.size,0,none⟩) 1 1,.slice a5 (2*k+1+1) c5] 39):=by
      rw[World.setCell_alloc_past _ _ _ _ hrv,World.setCell_alloc_past _ _ _ _ (by rw[ul];exact hrv)]
     rw[hDl]at HO;have HO2:=HO;rw[show ([(115:Int)].length)=1 from rfl,hcm]at HO2
     rw[hcm]at HKO;exact⟨_,G,_,rfl,HO2,rfl,HKO⟩
   ·have hq':¬2*(k:Int)+1<(n:Int):=by omega
    have hD:uaO n=xg k:=by unfold uaO;rw[hkk,if_neg hq]
    rw[hD];have hDl:(xg k).length=2*k+1:=jC k;go_wp2_with (first|(refine ual rfl _ rfl rfl ?_;intro V hV;have KV:Hid (Keep (fun _=>False) wr V):=hV▸yG _ _;have HIV:Hid (Ints (New wr V) .u8 V (some ⟨wr.heap.size,0,none⟩) 1 (lf [115])):=hV▸xB wr [115] (by simp);have htw:=(HTW.out.keep HK.out (fun e=>e)).keep KV.out (fun e=>e);obtain⟨t0,t1,f0,f1⟩:=htw;have hrl:=ub t0;clear hV))
    have hbp:BodP (New W0 wr) wr (.slice av (xg k).length cv) (xg k):=by rw[hDl];exact⟨L,l,HB.out,HL.out.1⟩
    have hgo:=uiQ (nc:=1) (t:=39) HK.out hbp KV.out (z:=[115]) HIV.out;obtain⟨G,hgr⟩:=hgo;have hsz:=HK0.out.size;have hrb:w.heap.size<W0.heap.size:=ub HTW.out.1;have hG:G w.heap.size=3:=hgr.tag hrb;have HO:=((hgr.set (o:=0) (u:=.slice (some ⟨V.heap.size,0,none⟩) 1 1) hG).set (o:=1) (u:=.slice none 0 0) hG).base hsz;have HKO:Keep (fun _=>False) w (((V.alloc (.cells #[.slice (some ⟨wr.heap.size,0,none⟩) 1 1,.slice av (2*k+1) cv] 39)).setCell ⟨w.heap.size,0,none⟩ (.slice (some ⟨V.heap.size,0,none⟩) 1 1)).setCell ⟨w.heap.size,1,none⟩ (.slice none 0 0)):=yQ (yQ (((HK0.out.trans HK.out).trans KV.out).trans (Keep.alloc _ _ _)) (Nat.le_refl _)) (Nat.le_refl _)
    refine bodyPost_ret (v:=.agg #[.slice (some ⟨V.heap.size,0,none⟩) 1 1,.slice none 0 0]) ?_ rfl ?_
    ·simp[results,Tryz.f54,go_sem, *]
    ·have hrv:w.heap.size<V.heap.size:=hrl
     have hcm:((V.alloc (.cells #[.slice (some ⟨wr.heap.size,0,none⟩) 1 1,.slice av (2*k+1) cv] 39)).setCell ⟨w.heap.size,0,none⟩ (.slice (some ⟨V.heap.size,0,none⟩) 1 1)).setCell ⟨w.heap.size,1,none⟩ (.slice none 0 0)=((V.setCell ⟨w.heap.size,0,none⟩ (.slice (some ⟨V.heap.size,0,none⟩) 1 1)).setCell ⟨w.heap.size,1,none⟩ (.slice none 0 0)).alloc (.cells #[.slice (some ⟨wr.heap.size,0,none⟩) 1 1,.slice av (2*k+1) cv] 39):=by
      rw[World.setCell_alloc_past _ _ _ _ hrv,World.setCell_alloc_past _ _ _ _ (by rw[ul];exact hrv)]
     rw[hDl]at HO;have HO2:=HO;rw[show ([(115:Int)].length)=1 from rfl,hcm]at HO2
     rw[hcm]at HKO;exact⟨_,G,_,rfl,HO2,rfl,HKO⟩
end
section
open Go.RowKit
open M (OpD uj Gr)
def xx(j:Nat):List Int:=110::List.replicate j 55
theorem qF(j:Nat):(xx j).length=j+1:=by simp[xx]
theorem uhR(j:Nat):xx (j+1)=xx j++[55]:=by
 unfold xx;rw[List.replicate_succ',List.cons_append]
theorem ugC(k:IntKind)(l:List Int)(x:Int)(n:Nat)(hn:l.length=n):uz k (lf l) n++[.int k x]=uz k (lf (l++[x])) (n+1):=by
 unfold uz;rw[List.range_succ,List.map_append]
 congr 1
 ·apply List.map_congr_left
  intro i hi;have:=List.mem_range.1 hi;rw[ua3 l [x] (by omega)]
 ·simp only[List.map_cons,List.map_nil]
  have:=qw l [x] 0;rw[Nat.add_zero,hn]at this;rw[this];rfl
def ujO(t:Tp)(i:Nat):(List zNL×List zNL)×Nat :=
 let k:=t.v i%4
 let e:=t.v (t.n i)%3
 let j:=t.n (t.n i)
 if k=0 then ((xm (99+e),xo 2),j)
 else if k=1 then ((xm 2,xo (99+e)),j)
 else if k=2 then (([⟨[115],true,uaO (1999+e)⟩],[]),j)
 else (((xm 2).set 1 ⟨xx (30+e),true,ui (ur 97)⟩,xo 1),j)
theorem uc7{t:Tp}{R i:Nat}{w W2 W3:World}{G:Nat→Nat}{rv lv:Value}{rs ls:List zNC}{p:(List zNL×List zNL)×Nat}(hon:RdOn t R i w W2)(hrb:w.heap.size<W2.heap.size)(hR:R<w.heap.size)(h:zGrP W2 G W3 rv lv rs ls)(k:Keep (fun _=>False) W2 W3)(hp:((rs.map (·.d),ls.map (·.d)),i)=p) :
  DrG t R p w (.returned (.agg #[rv,lv])) ((W3.setCell ⟨w.heap.size,0,none⟩ rv).setCell ⟨w.heap.size,1,none⟩ lv):=by
 subst hp;have hG:G w.heap.size=3:=h.tag hrb;exact⟨rv,lv,G,rs,ls,rfl,((h.set hG).set hG).base (by omega),rfl,rfl,((hon.quiet k).set (Nat.le_refl _) hR).set (Nat.le_refl _) hR⟩
def ulR(W4:World)(n:Nat)(v:Value)(wr:World):Prop :=
 ∃j:Nat,j+1≤n∧OwnC (New W4 wr) wr v 1 (j+1) (uz .u8 (lf (xx j)) (j+1))∧Keep (fun _=>False) W4 wr
theorem ulS(W:World)(n:Nat)(hn:1≤n):ulR W n (.slice (some ⟨W.heap.size,0,none⟩) 1 1) (xv W #[.int .u8 110]):=by
 refine⟨0,by omega,.inr ⟨W.heap.size,1,rfl,⟨Nat.le_refl _,by rw[jy];omega⟩,rfl,Nat.le_refl _,fun j hj=>?_,fun j hj=>⟨?_,?_⟩⟩,yG _ _⟩
 ·rw[uca]
  match j,hj with
  |0,_=>rfl
 ·rw[uca]
  match j,hj with
  |0,_=>rfl
 ·exact ugF _ _ _ (by simpa using hj)
theorem uns{W4 wr W5:World}{n j:Nat}{v5:Value}{o:Obj}(hj:j+1<n)(hk:Keep (fun _=>False) W4 wr)(own:OwnC (fun b=>New W4 wr b∨(wr.alloc o).heap.size≤b) W5 v5 1 (j+1+1) (uz .u8 (lf (xx j)) (j+1)++[.int .u8 55]))(g:Grew (New W4 wr) (wr.alloc o) W5):ulR W4 n v5 W5:=by
 refine⟨j+1,by omega,?_,qm (hk.trans (Keep.alloc _ _ _)) g (fun b q=>q.1)⟩
 rw[ugC .u8 (xx j) 55 (j+1) (qF j),←uhR]at own;have zk:=hk.size;rcases own with⟨_,q,_⟩|⟨b,cap,e,hq,h3,h4,h5,h6⟩
 ·omega
 refine .inr ⟨b,cap,e,⟨?_,?_⟩,h3,h4,h5,h6⟩
 ·rcases hq with q | q
  ·exact q.1
  ·simp at q;omega
 ·have hl:0<(uz .u8 (lf (xx (j+1))) (j+1+1)).length:=by rw[xy];omega
  have h:=h5 0 hl;rw[List.getElem?_eq_getElem hl]at h;exact ub h
set_option maxRecDepth 100000 in
set_option maxHeartbeats 20000000 in
theorem ugD(t:Tp)(R i:Nat)(w:World)(h:RdA t R w i)(p:(List zNL×List zNL)×Nat)(hp:ujO t i=p):Calls Tryz.prog 28 #[.pointer (some ⟨R,0,none⟩)] w (DrG t R p w):=by
 have hv:=t.v_le i;have hv2:=t.v_le (t.n i);have hRw:=h.lt;unfold ujO at hp;dsimp only at hp;go_enter Tryz.func28,Tryz.ntmps28;go_wp2_with fail;refine (uN t R i _ (h.keep (Keep.alloc (fun _=>False) _ _) (fun _ q=>q.elim))).mono ?_
 rintro e w1 ⟨rfl,hon1⟩;go_wp2_with fail;refine (uN t R (t.n i) _ hon1.1).mono ?_;rintro e W2 ⟨rfl,hon2⟩;have hon0:=hon1.trans hon2;have HR:Hid (RdOn t R (t.n (t.n i)) w W2):=⟨hon0.1,(Keep.alloc _ _ _).trans hon0.2⟩;have HTW:Hid (zTwo w.heap.size W2):=(ja w).keep hon0.2 (fun e=>by omega)
 obtain⟨t0,t1,f0,f1⟩:=HTW.out;have hrb:w.heap.size<W2.heap.size:=ub t0;clear hon1 hon2 hon0 h;generalize t.v i=ki at *;generalize t.v (t.n i)=kd at *;generalize t.n (t.n i)=i2 at *;obtain⟨q,hq⟩:∃x,ki%4=x:=⟨_,rfl⟩;obtain⟨d,hd⟩:∃x,kd%3=x:=⟨_,rfl⟩;have hq':(ki:Int)%4=(q:Int):=by omega
 have hd':(kd:Int)%3=(d:Int):=by omega
 have hql:q<4:=by omega
 have hdl:d<3:=by omega
 rw[hq,hd]at hp;clear hq hd;by_cases q0:q=0
 ·rw[if_pos q0]at hp
  subst q0;have e1:((99+d:Nat):Int)=100+((d:Int)-1):=by omega
  have hc:=uam (99+d) 2 (by omega) (by omega) W2
  rw[e1]at hc;have HC:Hid (Calls Tryz.prog 53 #[.int .i64 (100+((d:Int)-1)),.int .i64 2] W2 (DrM (xm (99+d)) (xo 2) W2)):=hc;clear hc e1;go_wp2_with fail;refine Calls.mono HC.out ?_;rintro e W3 ⟨rv,lv,G,rs,ls,rfl,hgr,hrs,hls,hk⟩;obtain⟨ra,rc,rfl⟩:=um hgr.rules;obtain⟨la,lc,rfl⟩:=um hgr.labs;obtain⟨s0,s1,sf0,sf1⟩:=HTW.out.keep hk (fun e=>e)
  have HF:=uc7 (p:=p) HR.out hrb hRw hgr hk (by rw[hrs,hls];exact hp)
  have HFF:Hid (DrG t R p w (.returned (.agg #[.slice ra rs.length rc,.slice la ls.length lc])) ((W3.setCell ⟨w.heap.size,0,none⟩ (.slice ra rs.length rc)).setCell ⟨w.heap.size,1,none⟩ (.slice la ls.length lc))):=HF;clear HF hgr hrs hls hk hp t0 t1 f0 f1;go_wp2;refine bodyPost_ret (v:=.agg #[.slice ra rs.length rc,.slice la ls.length lc]) ?_ rfl ?_
  ·simp[results,Tryz.f28,go_sem, *]
  ·exact HFF.out
 have q0':¬(q:Int)=0:=by omega
 rw[if_neg q0]at hp;by_cases q1:q=1
 ·rw[if_pos q1]at hp
  subst q1;have e1:((99+d:Nat):Int)=100+((d:Int)-1):=by omega
  have hc:=uam 2 (99+d) (by omega) (by omega) W2
  rw[e1]at hc;have HC:Hid (Calls Tryz.prog 53 #[.int .i64 2,.int .i64 (100+((d:Int)-1))] W2 (DrM (xm 2) (xo (99+d)) W2)):=hc;clear hc e1;go_wp2_with fail;refine Calls.mono HC.out ?_;rintro e W3 ⟨rv,lv,G,rs,ls,rfl,hgr,hrs,hls,hk⟩;obtain⟨ra,rc,rfl⟩:=um hgr.rules;obtain⟨la,lc,rfl⟩:=um hgr.labs;obtain⟨s0,s1,sf0,sf1⟩:=HTW.out.keep hk (fun e=>e)
  have HF:=uc7 (p:=p) HR.out hrb hRw hgr hk (by rw[hrs,hls];exact hp)
  have HFF:Hid (DrG t R p w (.returned (.agg #[.slice ra rs.length rc,.slice la ls.length lc])) ((W3.setCell ⟨w.heap.size,0,none⟩ (.slice ra rs.length rc)).setCell ⟨w.heap.size,1,none⟩ (.slice la ls.length lc))):=HF;clear HF hgr hrs hls hk hp t0 t1 f0 f1;go_wp2;refine bodyPost_ret (v:=.agg #[.slice ra rs.length rc,.slice la ls.length lc]) ?_ rfl ?_
  ·simp[results,Tryz.f28,go_sem, *]
  ·exact HFF.out
 have q1':¬(q:Int)=1:=by omega
 rw[if_neg q1]at hp;by_cases q2:q=2
 ·rw[if_pos q2]at hp
  subst q2;have e1:((1999+d:Nat):Int)=2000+((d:Int)-1):=by omega
  have hc:=uhX (1999+d) (by omega) (by omega) W2
  rw[e1]at hc;have HC:Hid (Calls Tryz.prog 54 #[.int .i64 (2000+((d:Int)-1))] W2 (DrW [115] (uaO (1999+d)) W2)):=hc;clear hc e1;go_wp2_with fail;refine Calls.mono HC.out ?_;rintro e W3 ⟨rv,G,x,rfl,hgr,hx,hk⟩;obtain⟨ra,rc,rfl⟩:=um hgr.rules;obtain⟨s0,s1,sf0,sf1⟩:=HTW.out.keep hk (fun e=>e)
  have HF:=uc7 (p:=p) HR.out hrb hRw hgr hk (by rw[←hp];simp[hx])
  have HFF:Hid (DrG t R p w (.returned (.agg #[.slice ra 1 rc,.slice none 0 0])) ((W3.setCell ⟨w.heap.size,0,none⟩ (.slice ra 1 rc)).setCell ⟨w.heap.size,1,none⟩ (.slice none 0 0))):=HF;clear HF hgr hx hk hp t0 t1 f0 f1;go_wp2;refine bodyPost_ret (v:=.agg #[.slice ra 1 rc,.slice none 0 0]) ?_ rfl ?_
  ·simp[results,Tryz.f28,go_sem, *]
  ·exact HFF.out
 have q2':¬(q:Int)=2:=by omega
 rw[if_neg q2]at hp;have HC:Hid (Calls Tryz.prog 53 #[.int .i64 2,.int .i64 1] W2 (DrM (xm 2) (xo 1) W2)):=uam 2 1 (by omega) (by omega) W2
 go_wp2_with fail;refine Calls.mono HC.out ?_;rintro e W3 ⟨rv,lv,G,rs,ls,rfl,hgr,hrs,hls,hk⟩;have hl2:rs.length=2:=by rw[←List.length_map (f:=(·.d)),hrs];rfl
 obtain⟨ra,rc,rfl⟩:=um hgr.rules;obtain⟨la,lc,rfl⟩:=um hgr.labs;rw[hl2]at hgr ⊢;obtain⟨x,hx⟩:∃x,rs[1]? = some x:=⟨_,List.getElem?_eq_getElem (by omega)⟩
 have HX:Hid (rs[1]? = some x):=hx;have HGV:Hid (zGVar W3.heap.size W2 (uK G W3 3) (W3.alloc (.cells #[.slice ra 2 rc,.slice la ls.length lc] 26)) (.slice ra 2 rc) (.slice la ls.length lc) rs ls):=udQ hgr hk.size;have HK3:Hid (Keep (fun _=>False) W2 (W3.alloc (.cells #[.slice ra 2 rc,.slice la ls.length lc] 26))):=hk.trans (Keep.alloc _ _ _)
 have HRS:Hid (rs.map (·.d)=xm 2∧ls.map (·.d)=xo 1):=⟨hrs,hls⟩
 have h3w:W3.heap.size<(W3.alloc (.cells #[.slice ra 2 rc,.slice la ls.length lc] 26)).heap.size:=by simp
 clear hgr hrs hls hk hx hl2;go_upto_region 10 with fail
 generalize (W3.alloc (.cells #[.slice ra 2 rc,.slice la ls.length lc] 26))=W4 at *;go_wp2_with (refine ual rfl _ rfl rfl ?_;intro V hV;have HNI:Hid (ulR W4 (31+d) (.slice (some ⟨W4.heap.size,0,none⟩) 1 1) V):=hV▸ulS W4 _ (by omega);clear hV)
 have hd31:1≤31+d:=by omega
 go_loopw [6] (fun v wr=>ulR W4 (31+d) v wr) (fun v _=>50-(match v with | .slice _ k _=>k | _=>0))
 case atStart=>exact HNI.out
 case round =>
  obtain⟨j,hj,hown,hkeep⟩:=hrel;obtain⟨av,cv,rfl⟩:=um hown;have HO:Hid (OwnC (New W4 wr) wr (.slice av (j+1) cv) 1 (j+1) (uz .u8 (lf (xx j)) (j+1))):=hown;have HK:Hid (Keep (fun _=>False) W4 wr):=hkeep
  clear hown hkeep;by_cases hlt:j+1<31+d
  ·have hlt':(j:Int)+1<32+((d:Int)-1):=by omega
   have HSR:Hid (Src Tryz.prog 1 22 (.slice (some ⟨wr.heap.size,0,none⟩) 1 1) 1 [.int .u8 55] (wr.alloc (.cells #[.int .u8 55] 5))):=yH Tryz.underlying22 rfl (fun j u hu=>by
    have hb:=World.alloc_heap_new wr (.cells #[.int .u8 55] 5);simp only[World.cell?,hb];rw[←hu];simp) (fun u hu=>by obtain rfl:=List.mem_singleton.1 hu;rfl)
   go_wp2_with (at_builtin;refine uai rfl _ _ 22 22 rfl rfl rfl ufm (Q:=New W4 wr) (n:=j+1) (cs:=uz .u8 (lf (xx j)) (j+1)) (m:=1) (news:=[.int .u8 55]) (HO.out.on (fun b hb=>Below.heap_alloc wr _ _ hb.2)) HSR.out (by omega) ?_;intro v5 W5 hown hgrew hsz;have HE:Hid (ulR W4 (31+d) v5 W5):=uns hlt HK.out hown hgrew;obtain⟨a5,c5,rfl⟩:=um hown;clear hown hgrew hsz)
   go_roundw;all_goals first
    |exact HE.out
    | (simp;omega)
    |omega
  ·obtain rfl:j=30+d:=by omega
   have hlt':¬(((30+d:Nat):Int)+1<32+((d:Int)-1)):=by omega
   have hgv:=HGV.out.later HK.out (fun _ e=>e.elim) 2
   have g0:=hgv.c0;have g1:=hgv.c1;obtain⟨gr,cr,er,hgt,_,r0,_,rf0,_⟩:=hgv.gr.ruleAt HX.out;obtain rfl:ra=some ⟨gr,0,none⟩:=by injection er
   have r2:wr.cell? ⟨gr,2,none⟩=some (.slice x.na x.d.nm.length x.nc):=r0;have rf2:wr.frozen? ⟨gr,2,none⟩=false:=rf0;have hin:Ints (zTg (uK (uK G W3 3) W4 2) wr 2) .u8 wr av (xx (30+d)).length (lf (xx (30+d))):=by rw[qF];exact (jA HO.out).wide (fun b q=>udF q)
   have hpt:=hgv.putR (j:=0) (y:=⟨⟨xx (30+d),x.d.has,x.d.bd⟩,av,cv,x.ba,x.bc⟩) (u:=.slice av (30+d+1) cv) HX.out (by omega) (by simp[vF,qF]) hgt hin (hgv.gr.rb 1 x HX.out)
   have HPT:Hid (zGVar W3.heap.size W2 (uK (uK G W3 3) W4 2) (wr.setCell ⟨gr,2,none⟩ (.slice av (30+d+1) cv)) (.slice (some ⟨gr,0,none⟩) 2 rc) (.slice la ls.length lc) (rs.set 1 ⟨⟨xx (30+d),x.d.has,x.d.bd⟩,av,cv,x.ba,x.bc⟩) ls):=hpt;have hgr2:W2.heap.size≤gr:=hgv.gr.new gr (by rw[hgt.2];omega)
   have HKF:Hid (Keep (fun _=>False) W2 (wr.setCell ⟨gr,2,none⟩ (.slice av (30+d+1) cv))):=yQ (HK3.out.trans HK.out) hgr2
   have hxd:x.d=⟨bytesOf (unu 1),true,ui (ur 97)⟩:=by
    have h1:(rs.map (·.d))[1]? = some x.d:=by rw[List.getElem?_map,HX.out];rfl
    rw[HRS.out.1]at h1;exact (Option.some.inj h1).symm
   obtain⟨s0,s1,sf0,sf1⟩:=HTW.out.keep HKF.out (fun e=>e)
   have u0:=hpt.c0;have u1:=hpt.c1;have HFF:Hid (DrG t R p w (.returned (.agg #[.slice (some ⟨gr,0,none⟩) 2 rc,.slice la ls.length lc])) (((wr.setCell ⟨gr,2,none⟩ (.slice av (30+d+1) cv)).setCell ⟨w.heap.size,0,none⟩ (.slice (some ⟨gr,0,none⟩) 2 rc)).setCell ⟨w.heap.size,1,none⟩ (.slice la ls.length lc))):=uc7 HR.out hrb hRw HPT.out.gr HKF.out (by rw[←hp,List.map_set,HRS.out.1,HRS.out.2,hxd])
   have hgrl:=hgt.1;have hw3l:=ub g0;clear hgv hpt hgt hin hxd er hp t0 t1 f0 f1;go_wp2;refine bodyPost_ret (v:=.agg #[.slice (some ⟨gr,0,none⟩) 2 rc,.slice la ls.length lc]) ?_ rfl ?_
   ·simp[results,Tryz.f28,go_sem, *]
   ·exact HFF.out
end
end Go.Proofs.YthicmmhmmfhncaaGreat
