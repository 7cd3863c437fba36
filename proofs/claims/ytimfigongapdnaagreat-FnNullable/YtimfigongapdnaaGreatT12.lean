import Derived.Test.YtimfigongapdnaaGreatT11
set_option linter.unusedVariables false
set_option linter.unusedSimpArgs false
set_option maxHeartbeats 40000000
set_option maxRecDepth 100000
namespace Go.Proofs.YtimfigongapdnaaGreat
open Go.RowKit
open M (OpD ug Gr)
theorem uig t R i w0 w G ra la rc lc E O(h:zGrP w0 G w (.slice ra E.length rc) (.slice la O.length lc) E O)(hz:w0.heap.size<=w.heap.size)(hr:RdA t R w i)(ah:R<w0.heap.size)(al:0<E.length)(a8:E.length<=1000)(a7:O.length<=1000)(aw:∀x∈E,0<x.d.bd.length/\xG x.d.bd.length (df x.d.bd))(p:(List zNL×List zNL)×Nat)(f:ueM t i (E.map (·.d)) (O.map (·.d))=p) :
    Calls Tryz.prog 51 #[.agg #[.slice ra E.length rc,.slice la O.length lc],.pointer (some ⟨R,0,none⟩)] w (DrX t R w0 G p w):=by
  obtain⟨G1,hS⟩:=umq h hz hr ah;have ap:=ua aw;have bt:=t.v_le i;have bu:=t.v_le (t.n i);have bw:=t.v_le (t.n (t.n i));unfold ueM at f;dsimp only at f;rw[List.length_map,List.length_map]at f;obtain⟨n,hn⟩:=nm E.length;obtain⟨m,hm⟩:=nm O.length;have HN:=ua hn;have HM:=ua hm;rw[hn]at al a8;rw[hm]at a7;rw[hn,hm]at f hS ⊢;have c:=ua (And.intro ah hz);have bp:¬(n:Int)=0:=by omega
  have bq:¬n=0:=by omega
  clear h hr aw hn hm;go_enter Tryz.func51,Tryz.ntmps51;go_wp2_with fail;generalize (w.alloc (.cells #[.slice ra n rc,.slice la m lc] 28)).alloc (.cells #[.slice none 0 0,.slice none 0 0] 28)=W1 at *;refine qA (dr0 hS.rd) fun W2 d u=>?_
  have ac:=ua (hS.on d.1 c.out);clear hS d u;generalize t.n i=i1 at *;generalize t.v i=ki at *;obtain⟨q,hq⟩:=nm (ki%5);have hq':(ki:Int)%5=(q:Int):=by omega
  have bs:q<5:=by omega
  rw[hq]at f;have aq:=ua fun (P:Ending->World->Prop)=>qA (t:=t) (R:=R) (i:=i1) (w0:=W2) (w:=W2.drew) (P:=P)
  have au:=ua fun (w0:World) (P:Ending->World->Prop)=>qA (t:=t) (R:=R) (i:=t.n i1) (w0:=w0) (w:=w0.drew) (P:=P)
  generalize vH G1 W1 3=G2 at *;clear hq;generalize t.v i1=k1 at *;generalize t.n i1=i2 at *;obtain⟨a,N⟩:=nm (k1%n);rw[N]at f;have bi:a<n:=N▸Nat.mod_lt k1 al;have ha':(k1:Int)%(n:Int)=(a:Int):=by rw[<-N];omega
  have bj:(k1:Int).tmod (n:Int)=(a:Int):=by rw[Int.tmod_eq_emod_of_nonneg (by omega)];exact ha'
  clear N;generalize t.v i2=k2 at *;generalize t.n i2=i3 at *;obtain⟨b,N⟩:=nm (k2%n);rw[N]at f;have bk:b<n:=N▸Nat.mod_lt k2 al;have hb':(k2:Int)%(n:Int)=(b:Int):=by rw[<-N];omega
  have bl:(k2:Int).tmod (n:Int)=(b:Int):=by rw[Int.tmod_eq_emod_of_nonneg (by omega)];exact hb'
  clear N;have c0:=ac.out.gv.c0;go_wp2_with fail;simp only[hq'];go_cut [6] from 10 to 110 (fun v wc=>v=.int .i64 (a:Int)/\Dr t R i2 W2 wc)
  case first =>
    go_region_law
      (refine uch ujF rfl (.tmp 13) 42 rfl (y1:=.pointer (some ⟨R,0,none⟩)) (by simp[Act.eval,Act.put]) (aq.out _ ((dr0 ac.out.rd).q (Keep.drew _ _)) fun U d u=>⟨_,rfl,?_⟩)
       have zu:=(ac.out.gv.later d.1.2 (fun b e=>⟨by omega,by omega⟩) 3).c0
       have bh:=ud zu)
    all_goals go_goals
    all_goals go_wp2_with fail
    all_goals go_meet
    all_goals exact⟨rfl,d⟩
  obtain⟨rfl,d⟩:=hcut;have ad:=ua (ac.out.on d.1 c.out);obtain⟨W3,hw⟩:∃x,x=wc:=⟨_,rfl⟩;subst hw;clear c0 d ac aq;have c0:=ad.out.gv.c0;go_wp2_with fail;go_cut [7] from 10 to 110 (fun v wc=>v=.int .i64 (b:Int)/\Dr t R i3 W3 wc)
  case first =>
    go_region_law
      (refine uch ujF rfl (.tmp 19) 42 rfl (y1:=.pointer (some ⟨R,0,none⟩)) (by simp[Act.eval,Act.put]) (au.out _ _ ((dr0 ad.out.rd).q (Keep.drew _ _)) fun U d u=>⟨_,rfl,?_⟩)
       have zu:=(ad.out.gv.later d.1.2 (fun b e=>⟨by omega,by omega⟩) 3).c0
       have bh:=ud zu)
    all_goals go_goals
    all_goals go_wp2_with fail
    all_goals go_meet
    all_goals exact⟨rfl,d⟩
  obtain⟨rfl,d⟩:=hcut;have j:=ua (ad.out.on d.1 c.out);obtain⟨W4,hw⟩:∃x,x=wc:=⟨_,rfl⟩;subst hw;clear c0 d ad au;generalize vH (vH G2 W2 3) W3 3=ay at *;obtain⟨z,aa⟩:∃x,E[a]? = some x:=⟨_,List.getElem?_eq_getElem (by have:=HN.out;omega)⟩
  have l:=ua aa;obtain⟨g,cg,eg,Z,_,r0,r1,bf,bg⟩:=j.out.gv.gr.ruleAt aa;obtain rfl:ra=some ⟨g,0,none⟩:=by injection eg
  have V:=ua Z;have HX:=ua (j.out.ob ah aa (ap.out z (List.mem_of_getElem? aa)));have c0:=j.out.gv.c0;have L:=j.out.gv.c1;have a0:=Z.1;have hal':(a:Int)<(n:Int):=by omega
  rw[udd aa]at f;have ab:Hid (∀D ba bc,(E.set a ⟨⟨z.d.nm,z.d.has,D⟩,z.na,z.nc,ba,bc⟩).map (·.d)=qg (E.map (·.d)) a D):=fun D ba bc=>by rw[List.map_set];unfold qg;rw[udd l.out]
  have d:=dr0 j.out.rd;clear eg Z aa r0 bf;go_upto_if 32 with fail
  go_cut [5] from 10 to 110 (fun v wc=>v=.int .i64 (q:Int)/\∃G2 an am,LpS t R w0 w G w.heap.size G2 wc (.slice (some ⟨g,0,none⟩) n rc) (.slice la m lc) an am i3/\((an.map (·.d),am.map (·.d)),i3)=p)
  case first =>
    by_cases q0:q=0
    · rw[if_pos q0]at f
      subst q0 f;go_wp2_with fail;go_region_law
        (first
          | (refine yk jH rfl (.const (.int .i64 2)) (.tmp 37) 3 3 rfl (y1:=.int .i64 2) (y2:=.int .i64 (b:Int)) rfl (by simp[Act.eval,Act.put]) (jo 2 (b:Int) (d.q (Keep.drew _ _)) fun S L V1 r u1 Y=>⟨_,rfl,?_⟩)
             have ⟨z1,zl1,s1,sf1⟩:=j.out.ruleC c.out l.out r)
          | (refine xu ubn rfl (.const (.int .i64 5)) (.tmp 36) (.tmp 38) 3 68 68 rfl (y1:=.int .i64 5) (y2:=.slice z.ba z.d.bd.length z.bc) (y3:=.slice S (uq 2 (b:Int)).length L) rfl (by simp[Act.eval,Act.put]) (by simp[Act.eval,Act.put]) (ugP 5 r (r.ob HX.out) (Y.ob r (by omega)) fun W X V2 y A=>⟨_,rfl,?_⟩)
             have ⟨z2,zl2,s2,sf2⟩:=j.out.ruleC c.out l.out y;have H:=ua (j.out.rule c.out y.1 A l.out V.out);clear A))
      all_goals go_goals
      all_goals go_wp2_with fail
      all_goals go_meet
      all_goals (obtain⟨F,I⟩:=H.out;exact⟨by first|rfl | rw[J],F,_,_,I,by rw[ab.out]⟩)
    have q0':¬(q:Int)=0:=by omega
    rw[if_neg q0]at f;by_cases q1:q=1
    · rw[if_pos q1]at f
      subst q1 f;go_wp2_with fail;go_region_law
        (first
          | (refine yk jH rfl (.const (.int .i64 2)) (.tmp 47) 3 3 rfl (y1:=.int .i64 2) (y2:=.int .i64 (b:Int)) rfl (by simp[Act.eval,Act.put]) (jo 2 (b:Int) (d.q (Keep.drew _ _)) fun S L V1 r u1 Y=>⟨_,rfl,?_⟩)
             have ⟨z1,zl1,s1,sf1⟩:=j.out.ruleC c.out l.out r)
          | (refine yk ufB rfl (.const (.int .i64 7)) (.tmp 48) 3 68 rfl (y1:=.int .i64 7) (y2:=.slice S (uq 2 (b:Int)).length L) rfl (by simp[Act.eval,Act.put]) (dUn 7 r Y (by omega) fun W X V2 y u2 h2=>⟨_,rfl,?_⟩)
             have ⟨z2,zl2,s2,sf2⟩:=j.out.ruleC c.out l.out y)
          | (refine xu ubn rfl (.const (.int .i64 4)) (.tmp 49) (.tmp 50) 3 68 68 rfl (y1:=.int .i64 4) (y2:=.slice W (unD 7 (uq 2 (b:Int))).length X) (y3:=.slice z.ba z.d.bd.length z.bc) rfl (by simp[Act.eval,Act.put]) (by simp[Act.eval,Act.put]) (ugP 4 y (h2.ob y (by omega)) (y.ob HX.out) fun a3 c3 V3 T A=>⟨_,rfl,?_⟩)
             have ⟨z3,zl3,s3,sf3⟩:=j.out.ruleC c.out l.out T;have H:=ua (j.out.rule c.out T.1 A l.out V.out);clear A))
      all_goals go_goals
      all_goals go_wp2_with fail
      all_goals go_meet
      all_goals (obtain⟨F,I⟩:=H.out;exact⟨by first|rfl | rw[J],F,_,_,I,by rw[ab.out]⟩)
    have q1':¬(q:Int)=1:=by omega
    rw[if_neg q1]at f;by_cases q2:q=2
    · rw[if_pos q2]at f
      subst q2 f;go_wp2_with fail;go_region_law
        (first
          | (refine yk ufB rfl (.const (.int .i64 6)) (.tmp 59) 3 68 rfl (y1:=.int .i64 6) (y2:=.slice z.ba z.d.bd.length z.bc) rfl (by simp[Act.eval,Act.put]) (uth 6 (d.q (Keep.drew _ _)) ((d.q (Keep.drew _ _)).ob HX.out) fun S L V1 r A=>⟨_,rfl,?_⟩)
             have ⟨z1,zl1,s1,sf1⟩:=j.out.ruleC c.out l.out r;have H:=ua (j.out.rule c.out r.1 A l.out V.out);clear A))
      all_goals go_goals
      all_goals go_wp2_with fail
      all_goals go_meet
      all_goals (obtain⟨F,I⟩:=H.out;exact⟨by first|rfl | rw[J],F,_,_,I,by rw[ab.out]⟩)
    have q2':¬(q:Int)=2:=by omega
    rw[if_neg q2]at f;by_cases J:q=3/\0<m
    · rw[if_pos J]at f
      obtain⟨be,ai⟩:=J;subst be;have q3'':(0:Int)<(m:Int):=by omega
      obtain⟨o,ho⟩:=nm (b%m);rw[ho]at f;have br:o<m:=ho▸Nat.mod_lt b ai;have ho':(b:Int)%(m:Int)=(o:Int):=by rw[<-ho];omega
      have hol':(o:Int)<(m:Int):=by omega
      have bo:¬(m:Int)=0:=by omega
      obtain⟨B,ag⟩:∃x,O[o]? = some x:=⟨_,List.getElem?_eq_getElem (by have:=HM.out;omega)⟩
      obtain⟨gl,cl,el,af,_,_,l1,l2,a9,bb⟩:=j.out.gv.gr.labelAt ag;obtain rfl:la=some ⟨gl,0,none⟩:=by injection el
      have Q:=ua (j.out.has c.out ag af);have ae:=ua (List.getElem?_set_self (a:=(⟨⟨B.d.nm,true,B.d.bd⟩,B.na,B.nc,B.ba,B.bc⟩:zNC)) (List.getElem?_eq_some_iff.1 ag).1);have ao:Hid (zTg ay (W4.setCell ⟨gl,o*3+1,none⟩ (.bool true)) 1 gl):=⟨by rw[uj];exact af.1,af.2⟩
      have bn:=af.1;obtain⟨ax,ak⟩:=nm (O.set o ⟨⟨B.d.nm,true,B.d.bd⟩,B.na,B.nc,B.ba,B.bc⟩);have az:Hid (∀x,(ax.set o x).map (·.d)=(O.map (·.d)).set o x.d):=fun x=>by rw[<-ak,List.set_set,List.map_set]
      rw[ak]at Q ae;rw[udd ag]at f;clear af el ag ho ak;go_upto_region 14 with fail
      generalize W4.setCell ⟨gl,o*3+1,none⟩ (.bool true)=W5 at *;have m1:=Q.out.gv.c1;have a6:=ao.out.1;have dl:=dr0 Q.out.rd;clear c0 L r1 bg l1 l2 a9 bb a0 V HX d;go_cut [9] from 10 to 110 (fun v wc=>v=.int .i64 (o:Int)/\∃G2 a3 c3,LpS t R w0 w G w.heap.size G2 wc (.slice (some ⟨g,0,none⟩) n rc) (.slice (some ⟨gl,0,none⟩) m lc) E (ax.set o ⟨⟨B.d.nm,true,uI 4 (uq 0 0) (uq 2 (a:Int))⟩,B.na,B.nc,a3,c3⟩) i3)
      case first =>
        go_region_law
          (first
            | (refine yk jH rfl (.const (.int .i64 0)) (.const (.int .i64 0)) 3 3 rfl (y1:=.int .i64 0) (y2:=.int .i64 0) rfl rfl (jo 0 0 (dl.q (Keep.drew _ _)) fun S L V1 r u1 Y=>⟨_,rfl,?_⟩)
               have ⟨z1,zl1,s1,sf1⟩:=Q.out.labelC c.out ae.out r)
            | (refine yk jH rfl (.const (.int .i64 2)) (.tmp 85) 3 3 rfl (y1:=.int .i64 2) (y2:=.int .i64 (a:Int)) rfl (by simp[Act.eval,Act.put]) (jo 2 (a:Int) r fun W X V2 y u2 h2=>⟨_,rfl,?_⟩)
               have ⟨z2,zl2,s2,sf2⟩:=Q.out.labelC c.out ae.out y)
            | (refine xu ubn rfl (.const (.int .i64 4)) (.tmp 84) (.tmp 86) 3 68 68 rfl (y1:=.int .i64 4) (y2:=.slice S (uq 0 0).length L) (y3:=.slice W (uq 2 (a:Int)).length X) rfl (by simp[Act.eval,Act.put]) (by simp[Act.eval,Act.put]) (ugP 4 y ((u2 Y).ob y (by omega)) (h2.ob y (by omega)) fun a3 c3 V3 T A=>⟨_,rfl,?_⟩)
               have ⟨z3,zl3,s3,sf3⟩:=Q.out.labelC c.out ae.out T;have H:=ua (Q.out.label c.out T.1 A ae.out ao.out);clear A))
        all_goals go_goals
        all_goals go_wp2_with fail
        all_goals go_meet
        all_goals (obtain⟨F,I⟩:=H.out;exact⟨rfl,F,_,_,I⟩)
      obtain⟨rfl,G6,a3,c3,C⟩:=hcut;obtain⟨W6,hw⟩:∃x,x=wc:=⟨_,rfl⟩;subst hw;have aj:=ua C;obtain⟨g7,_,e7,Z,_,_,_,_,_⟩:=C.gv.gr.ruleAt l.out;obtain rfl:g=g7:=by injection e7 with e1;injection e1 with e1;injection e1 with e1
      have V:=ua Z;have HX:=ua (C.ob ah l.out (ap.out z (List.mem_of_getElem? l.out)));have n0:=C.gv.c0;have n1:=C.gv.c1;have bm:=Z.1;have d:=dr0 C.rd;subst f;clear C e7 Z m1 a6 Q dl;go_wp2_with fail;go_region_law
        (first
          | (refine yk jH rfl (.const (.int .i64 3)) (.tmp 94) 3 3 rfl (y1:=.int .i64 3) (y2:=.int .i64 (o:Int)) rfl (by simp[Act.eval,Act.put]) (jo 3 (o:Int) (d.q (Keep.drew _ _)) fun S L V1 r u1 Y=>⟨_,rfl,?_⟩)
             have ⟨z1,zl1,s1,sf1⟩:=aj.out.ruleC c.out l.out r)
          | (refine xu ubn rfl (.const (.int .i64 5)) (.tmp 93) (.tmp 95) 3 68 68 rfl (y1:=.int .i64 5) (y2:=.slice z.ba z.d.bd.length z.bc) (y3:=.slice S (uq 3 (o:Int)).length L) rfl (by simp[Act.eval,Act.put]) (by simp[Act.eval,Act.put]) (ugP 5 r (r.ob HX.out) (Y.ob r (by omega)) fun W X V2 y A=>⟨_,rfl,?_⟩)
             have ⟨z2,zl2,s2,sf2⟩:=aj.out.ruleC c.out l.out y;have H:=ua (aj.out.rule c.out y.1 A l.out V.out);clear A))
      all_goals go_goals
      all_goals go_wp2_with fail
      all_goals go_meet
      all_goals (obtain⟨F,I⟩:=H.out;exact⟨rfl,F,_,_,I,by rw[ab.out,az.out]⟩)
    rw[if_neg J]at f;subst f;have ai:(q:Int)=3->¬(0:Int)<(m:Int):=fun e k=>J ⟨by omega,by omega⟩
    clear J;by_cases J:(q:Int)=3;all_goals try have q3'':=ai J
    all_goals clear ai
    all_goals go_wp2_with fail
    all_goals
      go_region_law
        (first
          | (refine uch uo2 rfl (.const (.int .i64 97)) 3 rfl (y1:=.int .i64 97) rfl (usD 97 (d.q (Keep.drew _ _)) fun V1 r u1 hI=>⟨_,rfl,?_⟩)
             have ⟨z1,zl1,s1,sf1⟩:=j.out.ruleC c.out l.out r)
          | (refine uch uo1 rfl (.tmp 102) 36 rfl (y1:=.slice (some ⟨W4.drew.heap.size,0,none⟩) 2 2) (by simp[Act.eval,Act.put]) (ub0 (s:=vz 97) r hI (by simp[vz]) fun W X V2 y u2 h2=>⟨_,rfl,?_⟩)
             have ⟨z2,zl2,s2,sf2⟩:=j.out.ruleC c.out l.out y)
          | (refine yk ufB rfl (.const (.int .i64 6)) (.tmp 103) 3 68 rfl (y1:=.int .i64 6) (y2:=.slice W (uF (vz 97)).length X) rfl (by simp[Act.eval,Act.put]) (dUn 6 y h2 (by omega) fun a3 c3 V3 T u3 h3=>⟨_,rfl,?_⟩)
             have ⟨z3,zl3,s3,sf3⟩:=j.out.ruleC c.out l.out T)
          | (refine yk jH rfl (.const (.int .i64 2)) (.tmp 105) 3 3 rfl (y1:=.int .i64 2) (y2:=.int .i64 (b:Int)) rfl (by simp[Act.eval,Act.put]) (jo 2 (b:Int) T fun a4 c4 V4 d4 u4 h4=>⟨_,rfl,?_⟩)
             have ⟨z4,zl4,s4,sf4⟩:=j.out.ruleC c.out l.out d4)
          | (refine xu ubn rfl (.const (.int .i64 4)) (.tmp 104) (.tmp 106) 3 68 68 rfl (y1:=.int .i64 4) (y2:=.slice a3 (unD 6 (uF (vz 97))).length c3) (y3:=.slice a4 (uq 2 (b:Int)).length c4) rfl (by simp[Act.eval,Act.put]) (by simp[Act.eval,Act.put]) (ugP 4 d4 ((u4 h3).ob d4 (by omega)) (h4.ob d4 (by omega)) fun a5 c5 V5 d5 A=>⟨_,rfl,?_⟩)
             have ⟨z5,zl5,s5,sf5⟩:=j.out.ruleC c.out l.out d5;have H:=ua (j.out.rule c.out d5.1 A l.out V.out);clear A))
      all_goals go_goals
      all_goals go_wp2_with fail
      all_goals go_meet
      all_goals (obtain⟨F,I⟩:=H.out;exact⟨by first|rfl | rw[J],F,_,_,I,by rw[ab.out]⟩)
  obtain⟨rfl,G6,an,am,C,av⟩:=hcut;obtain⟨W6,hw⟩:∃x,x=wc:=⟨_,rfl⟩;subst hw;have d0:=C.gv.c0;have r:=C.gv.c1;obtain⟨t0,t1,bx,bz⟩:=C.tw;have HF:=ua (C.fin c.out av);clear C av;go_wp2;refine bodyPost_ret (v:=.agg #[.slice (some ⟨g,0,none⟩) n rc,.slice la m lc]) ?_ rfl ?_
  · simp[results,Tryz.f51,go_sem, *]
  · exact HF.out
def ugG(n:Nat)(S:Nat->Int)(h:Byt n S):Tp:=⟨min n 500,λi=>if i<n then (S i).toNat else 0,by omega,λi=>by
 split
 ·rename_i a;have:=h i a;omega
 omega⟩
theorem uq4{w a n c m S Q}(k:Ints Q .u8 w a n S)(f:Byt n S)(l:m=min n 500)(r:m<=c){t}:RdA (ugG n S f) w.heap.size (w.alloc (.cells #[.slice a m c,.int .i64 0] t)) 0:=by
 have d:=World.alloc_heap_new w (.cells #[.slice a m c,.int .i64 0] t);refine⟨a,c,?_,?_,?_,Nat.zero_le _,by show min n 500<=c;omega,?_⟩
 ·simp only[World.cell?,d];subst l;rfl
 ·simp only[World.cell?,d];rfl
 ·simp only[World.frozen?,d];rfl
 show Ints _ .u8 _ a (min n 500) _;by_cases h:min n 500=0
 ·exact .inl h
 rcases k with q|⟨b,off,e,s,g⟩
 ·omega
 refine .inr ⟨b,off,e,ud (g 0 (by omega)),λi p=>?_⟩;have hi':i<n:=by omega
 have j:=ue (g i hi') (ui w (.cells #[.slice a m c,.int .i64 0] t));rw[j];have o:=f i hi';show some (Value.int .u8 (S i))=some (Value.int .u8 (((if i<n then (S i).toNat else 0:Nat)):Int));rw[if_pos hi'];congr 2;omega
theorem uh9 Q a n c S w(h:Ints Q .u8 w a n S)(g:Byt n S)(p:n<=1048576)(i:n<=c)(l:a=none->n=0/\c=0) :
  Calls Tryz.prog 10 #[.slice a n c] w λe w'=>e=.returned (.pointer (some ⟨w.heap.size,0,none⟩))/\RdA (ugG n S g) w.heap.size w' 0/\Keep (λ_=>False) w w':=by
 have b:Hid (∀m f,m=min n 500->m<=f->RdA (ugG n S g) w.heap.size (w.alloc (.cells #[.slice a m f,.int .i64 0] 98)) 0):=λm f j k=>uq4 h g j k
 cases a with
 |none =>
  obtain⟨rfl,rfl⟩:=l rfl;go_enter Tryz.func10,Tryz.ntmps10;go_wp2;go_ret;exact⟨rfl,b 0 0 rfl (Nat.le_refl _),Keep.alloc _ _ _⟩
 |some x =>
  by_cases o:500<n
  ·have d:decide ((500:Int)<n)=true:=(by simp;omega);go_enter Tryz.func10,Tryz.ntmps10;go_wp2;go_ret;exact⟨rfl,b 500 c (by omega) (by omega),Keep.alloc _ _ _⟩
  have d:decide ((500:Int)<n)=false:=by simp;omega
  go_enter Tryz.func10,Tryz.ntmps10;go_wp2;go_ret;exact⟨rfl,b n c (by omega) i,Keep.alloc _ _ _⟩
structure NS where
 a:Nat
 b:Nat
 c:Nat
 d:Nat
def NS.w(s:NS)(i:Nat):Nat:=if i=0 then s.a else if i=1 then s.b else if i=2 then s.c else if i=3 then s.d else 0
structure NS.OK(s:NS):Prop where
 a:s.a<18446744073709551616
 b:s.b<18446744073709551616
 c:s.c<18446744073709551616
 d:s.d<18446744073709551616
def nz:NS:=⟨0,0,0,0⟩
instance:Inhabited NS:=⟨nz⟩
def NS.has(s:NS)(p:Nat):Bool:=(s.w (p / 64)).testBit (p%64)
def NS.put(s:NS)(p:Nat):NS :=
 ⟨if p / 64=0 then s.a ||| 2 ^ (p%64) else s.a,if p / 64=1 then s.b ||| 2 ^ (p%64) else s.b,if p / 64=2 then s.c ||| 2 ^ (p%64) else s.c,if p / 64=3 then s.d ||| 2 ^ (p%64) else s.d⟩
def NS.join(s t:NS):NS:=⟨s.a ||| t.a,s.b ||| t.b,s.c ||| t.c,s.d ||| t.d⟩
def nsv(s:NS):Value:=.agg #[.int .u64 s.a,.int .u64 s.b,.int .u64 s.c,.int .u64 s.d]
theorem NS.OK.zero:nz.OK:=⟨by decide,by decide,by decide,by decide⟩
theorem ucv{x y}(a:x<18446744073709551616)(b:y<18446744073709551616):x ||| y<18446744073709551616:=Nat.or_lt_two_pow (n:=64) a b
theorem unX{r}(h:r<64):2 ^ r<18446744073709551616:=Nat.pow_lt_pow_right (n:=64) (by decide) h
theorem NS.OK.put{s:NS}(h:s.OK)(p:Nat):(s.put p).OK:=by
 have e:2 ^ (p%64)<18446744073709551616:=unX (Nat.mod_lt _ (by decide));refine⟨?_,?_,?_,?_⟩<;>(simp only[NS.put];split)
 ·exact ucv h.a e
 ·exact h.a
 ·exact ucv h.b e
 ·exact h.b
 ·exact ucv h.c e
 ·exact h.c
 ·exact ucv h.d e
 exact h.d
theorem NS.OK.join{s t:NS}(h:s.OK)(k:t.OK):(s.join t).OK:=⟨ucv h.a k.a,ucv h.b k.b,ucv h.c k.c,ucv h.d k.d⟩
theorem ugc{p}(h:p<256):p / 64=0\/p / 64=1\/p / 64=2\/p / 64=3:=by omega
theorem unY p:nz.has p=false:=by
 unfold NS.has NS.w;split
 ·simp[nz]
 split
 ·simp[nz]
 split
 ·simp[nz]
 split<;>simp[nz]
theorem up2 r k:(2 ^ r).testBit k=(r==k):=by
 rw[Nat.testBit_two_pow];by_cases h:r=k<;>simp[h]
theorem uke(s:NS)(p q:Nat)(g:p<256)(f:q<256):(s.put p).has q=(s.has q||q==p):=by
 unfold NS.has NS.w NS.put;have b:∀x:Nat,(x ||| 2 ^ (p%64)).testBit (q%64)=(x.testBit (q%64)||(p%64==q%64)):=λx=>by
  rw[Nat.testBit_or,up2]
 have c:p / 64=q / 64->(p%64==q%64)=(q==p):=λe=>by
  by_cases h:p%64=q%64
  ·have:q=p:=(by omega);rw[this];simp
  have:¬q=p:=λd=>h (by rw[d])
  rw[beq_eq_false_iff_ne.2 h,beq_eq_false_iff_ne.2 this]
 have a:p / 64≠q / 64->(q==p)=false:=λe=>by
  have:¬q=p:=λd=>e (by rw[d])
  simp[this]
 rcases ugc f with h|h|h|h
 ·simp only[h,if_pos];by_cases e:p / 64=0
  ·rw[if_pos e,b,c (by omega)]
  rw[if_neg e,a (by omega),Bool.or_false]
 ·simp only[h];by_cases e:p / 64=1
  ·simp[e,b,c (by omega)]
  simp[e,a (by omega)]
 ·simp only[h];by_cases e:p / 64=2
  ·simp[e,b,c (by omega)]
  simp[e,a (by omega)]
 simp only[h];by_cases e:p / 64=3
 ·simp[e,b,c (by omega)]
 simp[e,a (by omega)]
theorem ugd(x r:Nat)(c:x<18446744073709551616):(bits .and .u64 ((x:Int) / 2 ^ r) 1==1)=x.testBit r:=by
 have e:(x:Int) / 2 ^ r=((x / 2 ^ r:Nat):Int):=by simp
 have b:x / 2 ^ r<18446744073709551616:=Nat.lt_of_le_of_lt (Nat.div_le_self _ _) c;have a:=u64_and_nat (x / 2 ^ r) 1 b (by decide);rw[e,show(1:Int)=((1:Nat):Int) from rfl,a,nat_mask1,Nat.testBit_eq_decide_div_mod_eq];by_cases h:x / 2 ^ r%2=1
 ·simp[h]
 have:x / 2 ^ r%2=0:=by omega
 simp[this]
theorem ukf s(p:Nat)w(f:s.OK)(g:p<256) :
  Calls Tryz.prog 33 #[nsv s,.int .i64 p] w λe w'=>e=.returned (.bool (s.has p))/\w'=w.alloc (.cells #[.int .u64 s.a,.int .u64 s.b,.int .u64 s.c,.int .u64 s.d] 79):=by
 unfold nsv;have i:(p:Int).tdiv 64=((p / 64:Nat):Int):=by simp[Int.tdiv_eq_ediv]
 have j:(p:Int).tmod 64=((p%64:Nat):Int):=by simp[Int.tmod_eq_emod]
 have k:p%64<64:=Nat.mod_lt _ (by decide);rcases ugc g with h|h|h|h;all_goals (
  rw[h]at i;go_enter Tryz.func33,Tryz.ntmps33;go_wp2;go_ret;refine⟨xF ?_,rfl⟩;unfold NS.has NS.w;rw[h];first
   |exact ugd _ _ f.a
   |exact ugd _ _ f.b
   |exact ugd _ _ f.c
   |exact ugd _ _ f.d)
theorem ukg(x r:Nat)(c:x<18446744073709551616)(h:r<64):bits .or .u64 (x:Int) (IntKind.u64.wrap (2 ^ r))=((x ||| 2 ^ r:Nat):Int):=by
 have b:=unX h;have e:(2:Int) ^ r=((2 ^ r:Nat):Int):=by simp
 have a:IntKind.u64.wrap (2 ^ r)=((2 ^ r:Nat):Int):=by
  rw[e];generalize 2 ^ r=x at *;simp[IntKind.wrap,IntKind.bits,IntKind.signed];omega
 rw[a];exact u64_or_nat x (2 ^ r) c b
theorem ur0{a b c d:Int}{s:NS}(e:a=s.a)(f:b=s.b)(g:c=s.c)(h:d=s.d):Ending.returned (.agg #[.int .u64 a,.int .u64 b,.int .u64 c,.int .u64 d])=.returned (.agg #[.int .u64 s.a,.int .u64 s.b,.int .u64 s.c,.int .u64 s.d]):=by
 rw[e,f,g,h]
theorem unZ s(p:Nat)w(g:s.OK)(i:p<256) :
  Calls Tryz.prog 108 #[nsv s,.int .i64 p] w λe w'=>e=.returned (nsv (s.put p))/\Below w.heap.size w w':=by
 unfold nsv;have j:(p:Int).tdiv 64=((p / 64:Nat):Int):=by simp[Int.tdiv_eq_ediv]
 have k:(p:Int).tmod 64=((p%64:Nat):Int):=by simp[Int.tmod_eq_emod]
 have f:p%64<64:=Nat.mod_lt _ (by decide);rcases ugc i with h|h|h|h;all_goals (
  rw[h]at j;go_enter Tryz.func108,Tryz.ntmps108;go_wp2;go_region;go_wp2;refine bodyPost_ret (by simp[results,Tryz.f108,go_sem];rfl) rfl ?_;refine⟨ur0 ?_ ?_ ?_ ?_,(uP w _ _).drew⟩;all_goals (
   simp only[NS.put,h];first
    |rfl
    |exact ukg _ _ g.a f
    |exact ukg _ _ g.b f
    |exact ukg _ _ g.c f
    |exact ukg _ _ g.d f))
def part(s t:NS)(k:Nat):NS:=⟨if 0<k then s.a ||| t.a else s.a,if 1<k then s.b ||| t.b else s.b,if 2<k then s.c ||| t.c else s.c,if 3<k then s.d ||| t.d else s.d⟩
def nsc(s:NS):Obj:=.cells #[.int .u64 s.a,.int .u64 s.b,.int .u64 s.c,.int .u64 s.d] 79
def ur1(w:World)(s t:NS)(i:Value)(wr:World):Prop :=
 ∃k:Nat,k<=4/\i=.int .i64 (k:Int)/\wr=((w.alloc (nsc (part s t k))).alloc (nsc t)).alloc (nsc nz)
theorem usY s t:part s t 0=s:=rfl
theorem uqK s t:part s t 1=⟨s.a ||| t.a,s.b,s.c,s.d⟩:=rfl
theorem uqL s t:part s t 2=⟨s.a ||| t.a,s.b ||| t.b,s.c,s.d⟩:=rfl
theorem uqM s t:part s t 3=⟨s.a ||| t.a,s.b ||| t.b,s.c ||| t.c,s.d⟩:=rfl
theorem uqN s t:part s t 4=⟨s.a ||| t.a,s.b ||| t.b,s.c ||| t.c,s.d ||| t.d⟩:=rfl
theorem ulw s t w(l:s.OK)(m:t.OK) :
  Calls Tryz.prog 114 #[nsv s,nsv t] w λe w'=>e=.returned (nsv (s.join t))/\Below w.heap.size w w':=by
 obtain⟨a,b,c,d⟩:=s;obtain⟨f,g,h,j⟩:=t;have v:=u64_or_nat _ _ l.a m.a;have x:=u64_or_nat _ _ l.b m.b;have y:=u64_or_nat _ _ l.c m.c;have z:=u64_or_nat _ _ l.d m.d;have p:∀w:World,(Instr.index 79 (.agg #[.int .u64 f,.int .u64 g,.int .u64 h,.int .u64 j]) (.int .i64 0)).run Tryz.prog w=.ok (.int .u64 f) w:=λ_=>by kernel_rfl
 have q:∀w:World,(Instr.index 79 (.agg #[.int .u64 f,.int .u64 g,.int .u64 h,.int .u64 j]) (.int .i64 1)).run Tryz.prog w=.ok (.int .u64 g) w:=λ_=>by kernel_rfl
 have r:∀w:World,(Instr.index 79 (.agg #[.int .u64 f,.int .u64 g,.int .u64 h,.int .u64 j]) (.int .i64 2)).run Tryz.prog w=.ok (.int .u64 h) w:=λ_=>by kernel_rfl
 have u:∀w:World,(Instr.index 79 (.agg #[.int .u64 f,.int .u64 g,.int .u64 h,.int .u64 j]) (.int .i64 3)).run Tryz.prog w=.ok (.int .u64 j) w:=λ_=>by kernel_rfl
 simp only[nsv,NS.join];go_enter Tryz.func114,Tryz.ntmps114;go_wp2;go_loopw [8] (λi wr=>ur1 w ⟨a,b,c,d⟩ ⟨f,g,h,j⟩ i wr) (λi _=>4-(intOf i).toNat)
 case atStart=>exact⟨0,by omega,rfl,rfl⟩
 case round =>
  obtain⟨k,o,rfl,rfl⟩:=hrel;have n:k=0\/k=1\/k=2\/k=3\/k=4:=by omega
  rcases n with rfl|rfl|rfl|rfl|rfl
  ·simp only[nsc,usY,nz];go_wp2;go_roundw
   case rel=>exact⟨1,by omega,rfl,by simp only[nsc,uqK,nz];rfl⟩
   case measure=>simp[intOf]
  ·simp only[nsc,uqK,nz];go_wp2;go_roundw
   case rel=>exact⟨2,by omega,rfl,by simp only[nsc,uqL,nz];rfl⟩
   case measure=>simp[intOf]
  ·simp only[nsc,uqL,nz];go_wp2;go_roundw
   case rel=>exact⟨3,by omega,rfl,by simp only[nsc,uqM,nz];rfl⟩
   case measure=>simp[intOf]
  ·simp only[nsc,uqM,nz];go_wp2;go_roundw
   case rel=>exact⟨4,by omega,rfl,by simp only[nsc,uqN,nz];rfl⟩
   case measure=>simp[intOf]
  simp only[nsc,uqN,nz];go_wp2;refine bodyPost_ret (by simp[results,Tryz.f114,go_sem];rfl) rfl ?_;exact⟨rfl,udT w _ _ _⟩
end Go.Proofs.YtimfigongapdnaaGreat
