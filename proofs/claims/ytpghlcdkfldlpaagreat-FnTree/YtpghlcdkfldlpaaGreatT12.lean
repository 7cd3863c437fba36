import Derived.Test.YtpghlcdkfldlpaaGreatT11
set_option linter.unusedVariables false
set_option linter.unusedSimpArgs false
set_option maxHeartbeats 40000000
set_option maxRecDepth 100000
namespace Go.Proofs.YtpghlcdkfldlpaaGreat
open Go.RowKit
open M (OpD ue Gr)
theorem uh1 t R i w0 w G ra la rc lc E O(h:zGrP w0 G w (.slice ra E.length rc) (.slice la O.length lc) E O)(hz:w0.heap.size<=w.heap.size)(hr:RdA t R w i)(ah:R<w0.heap.size)(al:0<E.length)(a8:E.length<=1000)(a7:O.length<=1000)(aw:∀x∈E,0<x.d.bd.length/\xV x.d.bd.length (df x.d.bd))(p:(List zNL×List zNL)×Nat)(f:ueG t i (E.map (·.d)) (O.map (·.d))=p) :
    Calls Tryz.prog 51 #[.agg #[.slice ra E.length rc,.slice la O.length lc],.pointer (some ⟨R,0,none⟩)] w (DrX t R w0 G p w):=by
  obtain⟨G1,hS⟩:=ulU h hz hr ah;have ap:=ua aw;have bt:=t.v_le i;have bu:=t.v_le (t.n i);have bw:=t.v_le (t.n (t.n i));unfold ueG at f;dsimp only at f;rw[List.length_map,List.length_map]at f;obtain⟨n,hn⟩:=nm E.length;obtain⟨m,hm⟩:=nm O.length;have HN:=ua hn;have HM:=ua hm;rw[hn]at al a8;rw[hm]at a7;rw[hn,hm]at f hS ⊢;have c:=ua (And.intro ah hz);have bp:¬(n:Int)=0:=by omega
  have bq:¬n=0:=by omega
  clear h hr aw hn hm;go_enter Tryz.func51,Tryz.ntmps51;go_wp2_with fail;generalize (w.alloc (.cells #[.slice ra n rc,.slice la m lc] 28)).alloc (.cells #[.slice none 0 0,.slice none 0 0] 28)=W1 at *;refine qM (dr0 hS.rd) fun W2 d u=>?_
  have ac:=ua (hS.on d.1 c.out);clear hS d u;generalize t.n i=i1 at *;generalize t.v i=ki at *;obtain⟨q,hq⟩:=nm (ki%5);have hq':(ki:Int)%5=(q:Int):=by omega
  have bs:q<5:=by omega
  rw[hq]at f;have aq:=ua fun (P:Ending->World->Prop)=>qM (t:=t) (R:=R) (i:=i1) (w0:=W2) (w:=W2.drew) (P:=P)
  have au:=ua fun (w0:World) (P:Ending->World->Prop)=>qM (t:=t) (R:=R) (i:=t.n i1) (w0:=w0) (w:=w0.drew) (P:=P)
  generalize vN G1 W1 3=G2 at *;clear hq;generalize t.v i1=k1 at *;generalize t.n i1=i2 at *;obtain⟨a,N⟩:=nm (k1%n);rw[N]at f;have bi:a<n:=N▸Nat.mod_lt k1 al;have ha':(k1:Int)%(n:Int)=(a:Int):=by rw[<-N];omega
  have bj:(k1:Int).tmod (n:Int)=(a:Int):=by rw[Int.tmod_eq_emod_of_nonneg (by omega)];exact ha'
  clear N;generalize t.v i2=k2 at *;generalize t.n i2=i3 at *;obtain⟨b,N⟩:=nm (k2%n);rw[N]at f;have bk:b<n:=N▸Nat.mod_lt k2 al;have hb':(k2:Int)%(n:Int)=(b:Int):=by rw[<-N];omega
  have bl:(k2:Int).tmod (n:Int)=(b:Int):=by rw[Int.tmod_eq_emod_of_nonneg (by omega)];exact hb'
  clear N;have c0:=ac.out.gv.c0;go_wp2_with fail;simp only[hq'];go_cut [6] from 10 to 110 (fun v wc=>v=.int .i64 (a:Int)/\Dr t R i2 W2 wc)
  case first =>
    go_region_law
      (refine ub8 ujq rfl (.tmp 13) 45 rfl (y1:=.pointer (some ⟨R,0,none⟩)) (by simp[Act.eval,Act.put]) (aq.out _ ((dr0 ac.out.rd).q (Keep.drew _ _)) fun U d u=>⟨_,rfl,?_⟩)
       have zu:=(ac.out.gv.later d.1.2 (fun b e=>⟨by omega,by omega⟩) 3).c0
       have bh:=ub zu)
    all_goals go_goals
    all_goals go_wp2_with fail
    all_goals go_meet
    all_goals exact⟨rfl,d⟩
  obtain⟨rfl,d⟩:=hcut;have ad:=ua (ac.out.on d.1 c.out);obtain⟨W3,hw⟩:∃x,x=wc:=⟨_,rfl⟩;subst hw;clear c0 d ac aq;have c0:=ad.out.gv.c0;go_wp2_with fail;go_cut [7] from 10 to 110 (fun v wc=>v=.int .i64 (b:Int)/\Dr t R i3 W3 wc)
  case first =>
    go_region_law
      (refine ub8 ujq rfl (.tmp 19) 45 rfl (y1:=.pointer (some ⟨R,0,none⟩)) (by simp[Act.eval,Act.put]) (au.out _ _ ((dr0 ad.out.rd).q (Keep.drew _ _)) fun U d u=>⟨_,rfl,?_⟩)
       have zu:=(ad.out.gv.later d.1.2 (fun b e=>⟨by omega,by omega⟩) 3).c0
       have bh:=ub zu)
    all_goals go_goals
    all_goals go_wp2_with fail
    all_goals go_meet
    all_goals exact⟨rfl,d⟩
  obtain⟨rfl,d⟩:=hcut;have j:=ua (ad.out.on d.1 c.out);obtain⟨W4,hw⟩:∃x,x=wc:=⟨_,rfl⟩;subst hw;clear c0 d ad au;generalize vN (vN G2 W2 3) W3 3=ay at *;obtain⟨z,aa⟩:∃x,E[a]? = some x:=⟨_,List.getElem?_eq_getElem (by have:=HN.out;omega)⟩
  have l:=ua aa;obtain⟨g,cg,eg,Z,_,r0,r1,bf,bg⟩:=j.out.gv.gr.ruleAt aa;obtain rfl:ra=some ⟨g,0,none⟩:=by injection eg
  have V:=ua Z;have HX:=ua (j.out.ob ah aa (ap.out z (List.mem_of_getElem? aa)));have c0:=j.out.gv.c0;have L:=j.out.gv.c1;have a0:=Z.1;have hal':(a:Int)<(n:Int):=by omega
  rw[udd aa]at f;have ab:Hid (∀D ba bc,(E.set a ⟨⟨z.d.nm,z.d.has,D⟩,z.na,z.nc,ba,bc⟩).map (·.d)=qz (E.map (·.d)) a D):=fun D ba bc=>by rw[List.map_set];unfold qz;rw[udd l.out]
  have d:=dr0 j.out.rd;clear eg Z aa r0 bf;go_upto_if 32 with fail
  go_cut [5] from 10 to 110 (fun v wc=>v=.int .i64 (q:Int)/\∃G2 an am,LpS t R w0 w G w.heap.size G2 wc (.slice (some ⟨g,0,none⟩) n rc) (.slice la m lc) an am i3/\((an.map (·.d),am.map (·.d)),i3)=p)
  case first =>
    by_cases q0:q=0
    · rw[if_pos q0]at f
      subst q0 f;go_wp2_with fail;go_region_law
        (first
          | (refine yC qe rfl (.const (.int .i64 2)) (.tmp 37) 3 3 rfl (y1:=.int .i64 2) (y2:=.int .i64 (b:Int)) rfl (by simp[Act.eval,Act.put]) (jI 2 (b:Int) (d.q (Keep.drew _ _)) fun S L V1 r u1 Y=>⟨_,rfl,?_⟩)
             have ⟨z1,zl1,s1,sf1⟩:=j.out.ruleC c.out l.out r)
          | (refine xK ubn rfl (.const (.int .i64 5)) (.tmp 36) (.tmp 38) 3 71 71 rfl (y1:=.int .i64 5) (y2:=.slice z.ba z.d.bd.length z.bc) (y3:=.slice S (uq 2 (b:Int)).length L) rfl (by simp[Act.eval,Act.put]) (by simp[Act.eval,Act.put]) (ugt 5 r (r.ob HX.out) (Y.ob r (by omega)) fun W X V2 y A=>⟨_,rfl,?_⟩)
             have ⟨z2,zl2,s2,sf2⟩:=j.out.ruleC c.out l.out y;have H:=ua (j.out.rule c.out y.1 A l.out V.out);clear A))
      all_goals go_goals
      all_goals go_wp2_with fail
      all_goals go_meet
      all_goals (obtain⟨F,I⟩:=H.out;exact⟨by first|rfl | rw[J],F,_,_,I,by rw[ab.out]⟩)
    have q0':¬(q:Int)=0:=by omega
    rw[if_neg q0]at f;by_cases q1:q=1
    · rw[if_pos q1]at f
      subst q1 f;go_wp2_with fail;go_region_law
        (first
          | (refine yC qe rfl (.const (.int .i64 2)) (.tmp 47) 3 3 rfl (y1:=.int .i64 2) (y2:=.int .i64 (b:Int)) rfl (by simp[Act.eval,Act.put]) (jI 2 (b:Int) (d.q (Keep.drew _ _)) fun S L V1 r u1 Y=>⟨_,rfl,?_⟩)
             have ⟨z1,zl1,s1,sf1⟩:=j.out.ruleC c.out l.out r)
          | (refine yC ufw rfl (.const (.int .i64 7)) (.tmp 48) 3 71 rfl (y1:=.int .i64 7) (y2:=.slice S (uq 2 (b:Int)).length L) rfl (by simp[Act.eval,Act.put]) (dUn 7 r Y (by omega) fun W X V2 y u2 h2=>⟨_,rfl,?_⟩)
             have ⟨z2,zl2,s2,sf2⟩:=j.out.ruleC c.out l.out y)
          | (refine xK ubn rfl (.const (.int .i64 4)) (.tmp 49) (.tmp 50) 3 71 71 rfl (y1:=.int .i64 4) (y2:=.slice W (unD 7 (uq 2 (b:Int))).length X) (y3:=.slice z.ba z.d.bd.length z.bc) rfl (by simp[Act.eval,Act.put]) (by simp[Act.eval,Act.put]) (ugt 4 y (h2.ob y (by omega)) (y.ob HX.out) fun a3 c3 V3 T A=>⟨_,rfl,?_⟩)
             have ⟨z3,zl3,s3,sf3⟩:=j.out.ruleC c.out l.out T;have H:=ua (j.out.rule c.out T.1 A l.out V.out);clear A))
      all_goals go_goals
      all_goals go_wp2_with fail
      all_goals go_meet
      all_goals (obtain⟨F,I⟩:=H.out;exact⟨by first|rfl | rw[J],F,_,_,I,by rw[ab.out]⟩)
    have q1':¬(q:Int)=1:=by omega
    rw[if_neg q1]at f;by_cases q2:q=2
    · rw[if_pos q2]at f
      subst q2 f;go_wp2_with fail;go_region_law
        (first
          | (refine yC ufw rfl (.const (.int .i64 6)) (.tmp 59) 3 71 rfl (y1:=.int .i64 6) (y2:=.slice z.ba z.d.bd.length z.bc) rfl (by simp[Act.eval,Act.put]) (ur0 6 (d.q (Keep.drew _ _)) ((d.q (Keep.drew _ _)).ob HX.out) fun S L V1 r A=>⟨_,rfl,?_⟩)
             have ⟨z1,zl1,s1,sf1⟩:=j.out.ruleC c.out l.out r;have H:=ua (j.out.rule c.out r.1 A l.out V.out);clear A))
      all_goals go_goals
      all_goals go_wp2_with fail
      all_goals go_meet
      all_goals (obtain⟨F,I⟩:=H.out;exact⟨by first|rfl | rw[J],F,_,_,I,by rw[ab.out]⟩)
    have q2':¬(q:Int)=2:=by omega
    rw[if_neg q2]at f;by_cases J:q=3/\0<m
    · rw[if_pos J]at f
      obtain⟨be,ai⟩:=J;subst be;have q3'':(0:Int)<(m:Int):=by omega
      obtain⟨o,ho⟩:=nm (b%m);rw[ho]at f;have br:o<m:=ho▸Nat.mod_lt b ai;have ho':(b:Int)%(m:Int)=(o:Int):=by rw[<-ho];omega
      have hol':(o:Int)<(m:Int):=by omega
      have bo:¬(m:Int)=0:=by omega
      obtain⟨B,ag⟩:∃x,O[o]? = some x:=⟨_,List.getElem?_eq_getElem (by have:=HM.out;omega)⟩
      obtain⟨gl,cl,el,af,_,_,l1,l2,a9,bb⟩:=j.out.gv.gr.labelAt ag;obtain rfl:la=some ⟨gl,0,none⟩:=by injection el
      have Q:=ua (j.out.has c.out ag af);have ae:=ua (List.getElem?_set_self (a:=(⟨⟨B.d.nm,true,B.d.bd⟩,B.na,B.nc,B.ba,B.bc⟩:zNC)) (List.getElem?_eq_some_iff.1 ag).1);have ao:Hid (zTg ay (W4.setCell ⟨gl,o*3+1,none⟩ (.bool true)) 1 gl):=⟨by rw[uh];exact af.1,af.2⟩
      have bn:=af.1;obtain⟨ax,ak⟩:=nm (O.set o ⟨⟨B.d.nm,true,B.d.bd⟩,B.na,B.nc,B.ba,B.bc⟩);have az:Hid (∀x,(ax.set o x).map (·.d)=(O.map (·.d)).set o x.d):=fun x=>by rw[<-ak,List.set_set,List.map_set]
      rw[ak]at Q ae;rw[udd ag]at f;clear af el ag ho ak;go_upto_region 14 with fail
      generalize W4.setCell ⟨gl,o*3+1,none⟩ (.bool true)=W5 at *;have m1:=Q.out.gv.c1;have a6:=ao.out.1;have dl:=dr0 Q.out.rd;clear c0 L r1 bg l1 l2 a9 bb a0 V HX d;go_cut [9] from 10 to 110 (fun v wc=>v=.int .i64 (o:Int)/\∃G2 a3 c3,LpS t R w0 w G w.heap.size G2 wc (.slice (some ⟨g,0,none⟩) n rc) (.slice (some ⟨gl,0,none⟩) m lc) E (ax.set o ⟨⟨B.d.nm,true,uK 4 (uq 0 0) (uq 2 (a:Int))⟩,B.na,B.nc,a3,c3⟩) i3)
      case first =>
        go_region_law
          (first
            | (refine yC qe rfl (.const (.int .i64 0)) (.const (.int .i64 0)) 3 3 rfl (y1:=.int .i64 0) (y2:=.int .i64 0) rfl rfl (jI 0 0 (dl.q (Keep.drew _ _)) fun S L V1 r u1 Y=>⟨_,rfl,?_⟩)
               have ⟨z1,zl1,s1,sf1⟩:=Q.out.labelC c.out ae.out r)
            | (refine yC qe rfl (.const (.int .i64 2)) (.tmp 85) 3 3 rfl (y1:=.int .i64 2) (y2:=.int .i64 (a:Int)) rfl (by simp[Act.eval,Act.put]) (jI 2 (a:Int) r fun W X V2 y u2 h2=>⟨_,rfl,?_⟩)
               have ⟨z2,zl2,s2,sf2⟩:=Q.out.labelC c.out ae.out y)
            | (refine xK ubn rfl (.const (.int .i64 4)) (.tmp 84) (.tmp 86) 3 71 71 rfl (y1:=.int .i64 4) (y2:=.slice S (uq 0 0).length L) (y3:=.slice W (uq 2 (a:Int)).length X) rfl (by simp[Act.eval,Act.put]) (by simp[Act.eval,Act.put]) (ugt 4 y ((u2 Y).ob y (by omega)) (h2.ob y (by omega)) fun a3 c3 V3 T A=>⟨_,rfl,?_⟩)
               have ⟨z3,zl3,s3,sf3⟩:=Q.out.labelC c.out ae.out T;have H:=ua (Q.out.label c.out T.1 A ae.out ao.out);clear A))
        all_goals go_goals
        all_goals go_wp2_with fail
        all_goals go_meet
        all_goals (obtain⟨F,I⟩:=H.out;exact⟨rfl,F,_,_,I⟩)
      obtain⟨rfl,G6,a3,c3,C⟩:=hcut;obtain⟨W6,hw⟩:∃x,x=wc:=⟨_,rfl⟩;subst hw;have aj:=ua C;obtain⟨g7,_,e7,Z,_,_,_,_,_⟩:=C.gv.gr.ruleAt l.out;obtain rfl:g=g7:=by injection e7 with e1;injection e1 with e1;injection e1 with e1
      have V:=ua Z;have HX:=ua (C.ob ah l.out (ap.out z (List.mem_of_getElem? l.out)));have n0:=C.gv.c0;have n1:=C.gv.c1;have bm:=Z.1;have d:=dr0 C.rd;subst f;clear C e7 Z m1 a6 Q dl;go_wp2_with fail;go_region_law
        (first
          | (refine yC qe rfl (.const (.int .i64 3)) (.tmp 94) 3 3 rfl (y1:=.int .i64 3) (y2:=.int .i64 (o:Int)) rfl (by simp[Act.eval,Act.put]) (jI 3 (o:Int) (d.q (Keep.drew _ _)) fun S L V1 r u1 Y=>⟨_,rfl,?_⟩)
             have ⟨z1,zl1,s1,sf1⟩:=aj.out.ruleC c.out l.out r)
          | (refine xK ubn rfl (.const (.int .i64 5)) (.tmp 93) (.tmp 95) 3 71 71 rfl (y1:=.int .i64 5) (y2:=.slice z.ba z.d.bd.length z.bc) (y3:=.slice S (uq 3 (o:Int)).length L) rfl (by simp[Act.eval,Act.put]) (by simp[Act.eval,Act.put]) (ugt 5 r (r.ob HX.out) (Y.ob r (by omega)) fun W X V2 y A=>⟨_,rfl,?_⟩)
             have ⟨z2,zl2,s2,sf2⟩:=aj.out.ruleC c.out l.out y;have H:=ua (aj.out.rule c.out y.1 A l.out V.out);clear A))
      all_goals go_goals
      all_goals go_wp2_with fail
      all_goals go_meet
      all_goals (obtain⟨F,I⟩:=H.out;exact⟨rfl,F,_,_,I,by rw[ab.out,az.out]⟩)
    rw[if_neg J]at f;subst f;have ai:(q:Int)=3->¬(0:Int)<(m:Int):=fun e k=>J ⟨by omega,by omega⟩
    clear J;by_cases J:(q:Int)=3;all_goals try have q3'':=ai J
    all_goals clear ai
    all_goals go_wp2_with fail
    all_goals
      go_region_law
        (first
          | (refine ub8 uoe rfl (.const (.int .i64 97)) 3 rfl (y1:=.int .i64 97) rfl (urv 97 (d.q (Keep.drew _ _)) fun V1 r u1 hI=>⟨_,rfl,?_⟩)
             have ⟨z1,zl1,s1,sf1⟩:=j.out.ruleC c.out l.out r)
          | (refine ub8 uod rfl (.tmp 102) 34 rfl (y1:=.slice (some ⟨W4.drew.heap.size,0,none⟩) 2 2) (by simp[Act.eval,Act.put]) (ubQ (s:=vI 97) r hI (by simp[vI]) fun W X V2 y u2 h2=>⟨_,rfl,?_⟩)
             have ⟨z2,zl2,s2,sf2⟩:=j.out.ruleC c.out l.out y)
          | (refine yC ufw rfl (.const (.int .i64 6)) (.tmp 103) 3 71 rfl (y1:=.int .i64 6) (y2:=.slice W (uF (vI 97)).length X) rfl (by simp[Act.eval,Act.put]) (dUn 6 y h2 (by omega) fun a3 c3 V3 T u3 h3=>⟨_,rfl,?_⟩)
             have ⟨z3,zl3,s3,sf3⟩:=j.out.ruleC c.out l.out T)
          | (refine yC qe rfl (.const (.int .i64 2)) (.tmp 105) 3 3 rfl (y1:=.int .i64 2) (y2:=.int .i64 (b:Int)) rfl (by simp[Act.eval,Act.put]) (jI 2 (b:Int) T fun a4 c4 V4 d4 u4 h4=>⟨_,rfl,?_⟩)
             have ⟨z4,zl4,s4,sf4⟩:=j.out.ruleC c.out l.out d4)
          | (refine xK ubn rfl (.const (.int .i64 4)) (.tmp 104) (.tmp 106) 3 71 71 rfl (y1:=.int .i64 4) (y2:=.slice a3 (unD 6 (uF (vI 97))).length c3) (y3:=.slice a4 (uq 2 (b:Int)).length c4) rfl (by simp[Act.eval,Act.put]) (by simp[Act.eval,Act.put]) (ugt 4 d4 ((u4 h3).ob d4 (by omega)) (h4.ob d4 (by omega)) fun a5 c5 V5 d5 A=>⟨_,rfl,?_⟩)
             have ⟨z5,zl5,s5,sf5⟩:=j.out.ruleC c.out l.out d5;have H:=ua (j.out.rule c.out d5.1 A l.out V.out);clear A))
      all_goals go_goals
      all_goals go_wp2_with fail
      all_goals go_meet
      all_goals (obtain⟨F,I⟩:=H.out;exact⟨by first|rfl | rw[J],F,_,_,I,by rw[ab.out]⟩)
  obtain⟨rfl,G6,an,am,C,av⟩:=hcut;obtain⟨W6,hw⟩:∃x,x=wc:=⟨_,rfl⟩;subst hw;have d0:=C.gv.c0;have r:=C.gv.c1;obtain⟨t0,t1,bx,bz⟩:=C.tw;have HF:=ua (C.fin c.out av);clear C av;go_wp2;refine bodyPost_ret (v:=.agg #[.slice (some ⟨g,0,none⟩) n rc,.slice la m lc]) ?_ rfl ?_
  · simp[results,Tryz.f51,go_sem, *]
  · exact HF.out
def ugk(n:Nat)(S:Nat->Int)(h:Byt n S):Tp:=⟨min n 500,λi=>if i<n then (S i).toNat else 0,by omega,λi=>by
 split
 ·rename_i a;have:=h i a;omega
 omega⟩
theorem upX{w a n c m S Q}(k:Ints Q .u8 w a n S)(f:Byt n S)(l:m=min n 500)(r:m<=c){t}:RdA (ugk n S f) w.heap.size (w.alloc (.cells #[.slice a m c,.int .i64 0] t)) 0:=by
 have d:=World.alloc_heap_new w (.cells #[.slice a m c,.int .i64 0] t);refine⟨a,c,?_,?_,?_,Nat.zero_le _,by show min n 500<=c;omega,?_⟩
 ·simp only[World.cell?,d];subst l;rfl
 ·simp only[World.cell?,d];rfl
 ·simp only[World.frozen?,d];rfl
 show Ints _ .u8 _ a (min n 500) _;by_cases h:min n 500=0
 ·exact .inl h
 rcases k with q|⟨b,off,e,s,g⟩
 ·omega
 refine .inr ⟨b,off,e,ub (g 0 (by omega)),λi p=>?_⟩;have hi':i<n:=by omega
 have j:=uc (g i hi') (uf w (.cells #[.slice a m c,.int .i64 0] t));rw[j];have o:=f i hi';show some (Value.int .u8 (S i))=some (Value.int .u8 (((if i<n then (S i).toNat else 0:Nat)):Int));rw[if_pos hi'];congr 2;omega
theorem uhU Q a n c S w(h:Ints Q .u8 w a n S)(g:Byt n S)(p:n<=1048576)(i:n<=c)(l:a=none->n=0/\c=0) :
  Calls Tryz.prog 11 #[.slice a n c] w λe w'=>e=.returned (.pointer (some ⟨w.heap.size,0,none⟩))/\RdA (ugk n S g) w.heap.size w' 0/\Keep (λ_=>False) w w':=by
 have b:Hid (∀m f,m=min n 500->m<=f->RdA (ugk n S g) w.heap.size (w.alloc (.cells #[.slice a m f,.int .i64 0] 103)) 0):=λm f j k=>upX h g j k
 cases a with
 |none =>
  obtain⟨rfl,rfl⟩:=l rfl;go_enter Tryz.func11,Tryz.ntmps11;go_wp2;go_ret;exact⟨rfl,b 0 0 rfl (Nat.le_refl _),Keep.alloc _ _ _⟩
 |some x =>
  by_cases o:500<n
  ·have d:decide ((500:Int)<n)=true:=(by simp;omega);go_enter Tryz.func11,Tryz.ntmps11;go_wp2;go_ret;exact⟨rfl,b 500 c (by omega) (by omega),Keep.alloc _ _ _⟩
  have d:decide ((500:Int)<n)=false:=by simp;omega
  go_enter Tryz.func11,Tryz.ntmps11;go_wp2;go_ret;exact⟨rfl,b n c (by omega) i,Keep.alloc _ _ _⟩
structure NS where
 a:Nat
 b:Nat
 c:Nat
 d:Nat
def nz:NS:=⟨0,0,0,0⟩
instance:Inhabited NS:=⟨nz⟩
def part(s t:NS)(k:Nat):NS:=⟨if 0<k then s.a ||| t.a else s.a,if 1<k then s.b ||| t.b else s.b,if 2<k then s.c ||| t.c else s.c,if 3<k then s.d ||| t.d else s.d⟩
theorem uaK f la h nr g d lc i o w(j:0<=o.arg)(k:o.arg<=1048576)(l:nr<=1048576) :
  Calls Tryz.prog 107 #[.agg #[.slice f nr g,.slice la d lc],.agg #[.int .i64 o.kind,.slice h o.sl i,.int .i64 o.arg]] w λe w'=>e=.returned (.int .i64 (M.tg nr o:Nat))/\Below w.heap.size w w':=by
 by_cases a:o.kind=3
 ·have c:(o.kind==3)=true:=by simp[a]
  have b:=ua a;go_enter Tryz.func107,Tryz.ntmps107;go_wp2;go_ret;exact⟨uC (by unfold M.tg;rw[if_pos b.out];omega),vb w _ _⟩
 have c:(o.kind==3)=false:=by simp[a]
 have b:=ua a;go_enter Tryz.func107,Tryz.ntmps107;go_wp2;go_ret;exact⟨uC (by unfold M.tg;rw[if_neg b.out];omega),vb w _ _⟩
def set4(w:World)(b:Nat)(s:NS):World:=(((w.setCell ⟨b,0,none⟩ (.int .u64 s.a)).setCell ⟨b,1,none⟩ (.int .u64 s.b)).setCell ⟨b,2,none⟩ (.int .u64 s.c)).setCell ⟨b,3,none⟩ (.int .u64 s.d)
structure Opn where
 nul:Bool
 beg:NS
 loop:Bool
instance:Inhabited Opn:=⟨⟨false,nz,false⟩⟩
def set6(w:World)(b:Nat)(x:Opn):World:=(((((w.setCell ⟨b,0,none⟩ (.bool x.nul)).setCell ⟨b,1,none⟩ (.int .u64 x.beg.a)).setCell ⟨b,2,none⟩ (.int .u64 x.beg.b)).setCell ⟨b,3,none⟩ (.int .u64 x.beg.c)).setCell ⟨b,4,none⟩ (.int .u64 x.beg.d)).setCell ⟨b,5,none⟩ (.bool x.loop)
theorem ubC{Q a w v c n cs}(h:OwnC Q w v c n cs)(k:∀b,Q b->a b):OwnC a w v c n cs:=by
 rcases h with h|⟨g,cap,e,f,d⟩
 ·exact .inl h
 exact .inr ⟨g,cap,e,k g f,d⟩
theorem udP{Q w w' v d n cs}(h:OwnC Q w v d n cs)(r:0<d)(k:Below w.heap.size w w'):OwnC Q w' v d n cs:=by
 rcases h with h|⟨g,cap,e,l,c,f,m,i⟩
 ·exact .inl h
 by_cases o:cap=0
 ·subst o;have:n=0:=by omega
  subst this;exact .inr ⟨g,0,e,l,c,f,λj b=>absurd b (by rw[c];omega),λj b=>by omega⟩
 have p:g<w.heap.size:=by
  obtain⟨u,q⟩:=Option.isSome_iff_exists.1 (i 0 (Nat.mul_pos (by omega) r)).1;exact ub q
 have e':=k.block g p;exact .inr ⟨g,cap,e,l,c,f,λj b=>by rw[World.cell?_of_block (a:=⟨g,j,none⟩) e'];exact m j b,i.later e'⟩
namespace M
inductive TX where
 |empty
 |set (n:Nat) (S:Nat->Int)
 |ref (s:ByteArray)
 |thr (s:ByteArray)
 |seq (x y:TX)
 |alt (x y:TX)
 |star (x:TX)
 |not (x:TX)
instance:Inhabited TX:=⟨.empty⟩
def TX.bind:TX->Int
 |.seq _ _=>1
 |.alt _ _=>0
 |.star _=>3
 |.not _=>2
 |_=>4
def b1(x:UInt8):ByteArray:=⟨#[x]⟩
def uet(v:Int):UInt8:=if v<10 then UInt8.ofNat (48+v.toNat) else UInt8.ofNat (87+v.toNat)
def uP(b:Int):ByteArray :=
 if b=10 then ⟨#[92,110]⟩ else if b=9 then ⟨#[92,116]⟩ else if b=13 then ⟨#[92,114]⟩
 else if b=92\/b=34\/b=91\/b=93\/b=45\/b=94 then ⟨#[92,UInt8.ofNat b.toNat]⟩
 else if 32<=b/\b<=126 then ⟨#[UInt8.ofNat b.toNat]⟩
 else ⟨#[92,120,uet (b / 16),uet (b%16)]⟩
def vT(lo a:Int):ByteArray:=uP lo++(if lo+1<a then b1 45 else ByteArray.empty)++(if lo<a then uP a else ByteArray.empty)
def jA(S:Nat->Int):Nat->ByteArray
 |0=>ByteArray.empty
 |k+1=>jA S k++vT (S (2*k)) (S (2*k+1))
def setT(n:Nat)(S:Nat->Int):ByteArray :=
 if n=2/\S 0=0/\S 1=255 then b1 46 else if n=2/\S 0=S 1 then b1 34++uP (S 0)++b1 34
 else b1 91++jA S (n / 2)++b1 93
def grp(c:Bool)(s:ByteArray):ByteArray:=if c then b1 40++s++b1 41 else s
def TX.text:TX->ByteArray
 |.empty=>⟨#[34,34]⟩
 |.set n S=>setT n S
 |.ref s=>s
 |.thr s=>b1 94++s
 |.seq x y=>grp (x.bind<1) x.text++b1 32++grp (y.bind<2) y.text
 |.alt x y=>x.text++⟨#[32,47,32]⟩++grp (y.bind<1) y.text
 |.star x=>grp (x.bind<4) x.text++b1 42
 |.not x=>b1 33++grp (x.bind<2) x.text
def nodeT(rn ln:Nat->ByteArray)(o:OpD)(x y:TX):TX :=
 if o.kind=1 then .set o.sl o.set else if o.kind=2 then .ref (rn o.arg.toNat) else if o.kind=3 then .thr (ln o.arg.toNat)
 else if o.kind=4 then .seq x y else if o.kind=5 then .alt x y else if o.kind=6 then .star x else if o.kind=7 then .not x else .empty
def bindK(k:Int):Int:=if k=4 then 1 else if k=5 then 0 else if k=6 then 3 else if k=7 then 2 else 4
theorem nodeT_bind rn ln o x y:(nodeT rn ln o x y).bind=bindK o.kind:=by
 unfold nodeT bindK;by_cases a:o.kind=1
 ·simp[a,TX.bind]
 by_cases b:o.kind=2
 ·simp[b,TX.bind]
 by_cases c:o.kind=3
 ·simp[c,TX.bind]
 by_cases d:o.kind=4
 ·simp[d,TX.bind]
 by_cases e:o.kind=5
 ·simp[e,TX.bind]
 by_cases f:o.kind=6
 ·simp[f,TX.bind]
 by_cases g:o.kind=7
 ·simp[g,TX.bind]
 simp[a,b,c,d,e,f,g,TX.bind]
def TX.sz:TX->Nat
 |.seq x y=>x.sz+y.sz+1
 |.alt x y=>x.sz+y.sz+1
 |.star x=>x.sz+1
 |.not x=>x.sz+1
 |_=>1
def TX.Fine:TX->Prop
 |.empty=>True
 |.set n S=>Canon n S
 |.ref s=>0<s.size/\s.size<=32
 |.thr s=>0<s.size/\s.size<=32
 |.seq x y=>x.Fine/\y.Fine
 |.alt x y=>x.Fine/\y.Fine
 |.star x=>x.Fine
 |.not x=>x.Fine
theorem b1_size x:(b1 x).size=1:=rfl
theorem emp_size:ByteArray.empty.size=0:=rfl
theorem byteT_size b:(uP b).size<=4:=by
 unfold uP;split
 ·simp[ByteArray.size]
 split
 ·simp[ByteArray.size]
 split
 ·simp[ByteArray.size]
 split
 ·simp[ByteArray.size]
 split<;>simp[ByteArray.size]
theorem uja lo a:(vT lo a).size<=9:=by
 unfold vT;have d:=byteT_size lo;have e:=byteT_size a;rw[ByteArray.size_append,ByteArray.size_append];have b:=b1_size 45;have c:=emp_size;split<;>split<;>omega
theorem midT_size S k:(jA S k).size<=9*k:=by
 induction k with
 |zero=>simp[jA]
 |succ k a =>
  have:=uja (S (2*k)) (S (2*k+1));rw[jA,ByteArray.size_append];omega
theorem canon_len{n S}(h:Canon n S):n<=256:=by
 obtain⟨l,f⟩:=h;obtain⟨k,rfl⟩:∃k,n=2*k:=⟨n / 2,by omega⟩;have d:=(pairs_canon S k).2 f;have i:∀j,j<k->2*(j:Int)<=S (2*j):=by
  intro j;induction j with
  |zero=>intro e;have:=(d 0 e).1;simp[least]at this;simpa using this
  |succ j g =>
   intro e;have a:=g (by omega);have b:=(d j (by omega)).2.1;have c:=(d (j+1) e).1;unfold least at c;rw[if_neg (by omega),show 2*(j+1)-1=2*j+1 by omega]at c
   push_cast
   omega
 by_cases m:k=0
 ·omega
 have a:=i (k-1) (by omega);have b:=d (k-1) (by omega);have:=b.2.1;have:=b.2.2;omega
theorem setT_size{n S}(h:Canon n S):(setT n S).size<=1200:=by
 have c:=canon_len h;have b:=midT_size S (n / 2);have a:=byteT_size (S 0);unfold setT;split
 ·rw[b1_size];omega
 split
 ·rw[ByteArray.size_append,ByteArray.size_append,b1_size];omega
 rw[ByteArray.size_append,ByteArray.size_append,b1_size,b1_size];omega
theorem grp_size c s:(grp c s).size<=s.size+2:=by
 unfold grp;split
 ·rw[ByteArray.size_append,ByteArray.size_append,b1_size,b1_size];omega
 omega
theorem text_size(t:TX)(h:t.Fine):t.text.size+8<=1210*t.sz:=by
 induction t with
 |empty=>simp[TX.text,TX.sz,ByteArray.size]
 |set n S=>have:=setT_size h;simp only[TX.text,TX.sz];omega
 |ref s=>simp only[TX.text,TX.sz,TX.Fine]at *;omega
 |thr s=>simp only[TX.text,TX.sz,TX.Fine]at *;rw[ByteArray.size_append,b1_size];omega
 |seq x y g i =>
  have a:=g h.1;have b:=i h.2;have c:=grp_size (x.bind<1) x.text;have d:=grp_size (y.bind<2) y.text;simp only[TX.text,TX.sz];rw[ByteArray.size_append,ByteArray.size_append];have e:(b1 32).size=1:=rfl;omega
 |alt x y g i =>
  have a:=g h.1;have b:=i h.2;have d:=grp_size (y.bind<1) y.text;simp only[TX.text,TX.sz];rw[ByteArray.size_append,ByteArray.size_append];have e:(ByteArray.mk #[32,47,32]).size=3:=rfl;omega
 |star x f =>
  have a:=f h;have c:=grp_size (x.bind<4) x.text;simp only[TX.text,TX.sz];rw[ByteArray.size_append];have e:(b1 42).size=1:=rfl;omega
 |not x f =>
  have a:=f h;have c:=grp_size (x.bind<2) x.text;simp only[TX.text,TX.sz];rw[ByteArray.size_append];have e:(b1 33).size=1:=rfl;omega
end M
open M (TX)
def bv (s : ByteArray) : List Value:=s.data.toList.map (fun b=>Value.int .u8 (b.toNat : Int))
open M (uP uet)
def urP:ByteArray:=⟨#[48,49,50,51,52,53,54,55,56,57,97,98,99,100,101,102]⟩
theorem uk7{q:Int}(h:0<=q/\q<=15):q=0\/q=1\/q=2\/q=3\/q=4\/q=5\/q=6\/q=7\/q=8\/q=9\/q=10\/q=11\/q=12\/q=13\/q=14\/q=15:=by omega
theorem urQ{b}(h:0<=b/\b<=255):IntKind.u8.wrap b=b:=by
 simp[IntKind.wrap,IntKind.bits,IntKind.signed];omega
open M (vT jA setT b1)
theorem ubD{n S}(h:M.Canon n S){k}(o:2*k+1<n):(0<=S (2*k)/\S (2*k)<=255)/\(0<=S (2*k+1)/\S (2*k+1)<=255):=by
  obtain⟨m,g⟩:=h;obtain⟨q,rfl⟩:∃q,n=2*q:=⟨n / 2,by omega⟩
  have d:=(M.pairs_canon S q).2 g;have l:∀j,j<q->0<=S (2*j):=by
    intro j;induction j with
    |zero=>intro e;have:=(d 0 e).1;simp[M.least]at this;simpa using this
    |succ j i =>
      intro e;have a:=i (by omega)
      have b:=(d j (by omega)).2.1
      have c:=(d (j+1) e).1;unfold M.least at c;rw[if_neg (by omega),show 2*(j+1)-1=2*j+1 by omega]at c
      omega
  have a:=l k (by omega)
  have b:=d k (by omega)
  have b1:=b.2.1;have f:=b.2.2;exact⟨⟨a,by omega⟩,⟨by omega,f⟩⟩
end Go.Proofs.YtpghlcdkfldlpaaGreat
