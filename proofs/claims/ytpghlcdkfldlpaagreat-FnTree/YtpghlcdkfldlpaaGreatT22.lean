import Derived.Test.YtpghlcdkfldlpaaGreatT21
set_option linter.unusedVariables false
set_option linter.unusedSimpArgs false
set_option maxHeartbeats 40000000
set_option maxRecDepth 100000
namespace Go.Proofs.YtpghlcdkfldlpaaGreat
section
open Go.RowKit
open M (OpD ue Gr um EX ins uG yN wt)
def EIs(d la:Option Addr)(e lc:Nat)(g:Gr)(Q:Nat->Prop)(b:Nat)(T:TR):Prop :=
  ∀(off c p l:Nat) (a:Int) (w:World),a=(p:Int)->l=T.n->T.Ok (M.ElemOK g.nr g.nb)->T.n<=c->T.n<=2000->TA Q w b T off->GramX Q w d la g->p+(T.fold (M.nodeE g.nr)).len<=100000 ->
    Calls Tryz.prog 55 #[.agg #[.slice d g.nr e,.slice la g.nb lc],.slice (some ⟨b,off,none⟩) l c,.int .i64 a] w (uf3 (uG (plc g) (T.fold (M.nodeE g.nr)) p) w)
variable {Q:Nat->Prop} {ra la:Option Addr} {rc lc:Nat} {g:Gr} {b:Nat}
theorem ule(R:Q b)(o:OpD)(x y:TR)(ix:EIs ra la rc lc g Q b x)(iy:EIs ra la rc lc g Q b y):EIs ra la rc lc g Q b (.bn o x y):=by
  intro off c p l pv w aq hl O hc hn hT hG P;subst aq;have HT:=ua hT;have r:=ua O;have Y:=ua hG;have IX:=ua ix;have IY:=ua iy;clear ix iy;obtain⟨hx,hy,A,⟨sa,sc,c1,au⟩,B⟩:=hT;have HX:=ua hx;have HY:=ua hy;have nx:=x.n0;have ny:=y.n0;simp only[TR.n]at hc hn hl;obtain⟨m,hm⟩:=nm (x.n+y.n);rw[hm]at A c1 B hc hn hl;have J:=ua hm;subst hl;obtain⟨j,hj⟩:=nm x.n;have f:=ua hj;rw[hj]at nx hm;have x2:((m+1:Nat):Int)-1=(m:Int):=by omega
  have x3:(m:Int)<((m+1:Nat):Int):=by omega
  have z6:=ux m (by omega)
  have f1:m<c:=by omega
  have f2:m<=c:=by omega
  have f3:¬c=0:=by omega
  have aw:b<w.heap.size:=ub A;have z7:=ux j (by omega)
  have jm:(j:Int)<(m:Int):=by omega
  have a0:(j:Int)<=(m:Int):=by omega
  have f4:¬c=j:=by omega
  have f5:j<=m:=by omega
  have f6:j<=c:=by omega
  have h:o.kind=4\/o.kind=5:=by have:=O.1;unfold M.ar at this;split at this<;>(try split at this)<;>omega
  obtain⟨d,aj⟩:=nm (x.fold (M.nodeE g.nr)).len;have s:=ua aj;have ah:p+d+(y.fold (M.nodeE g.nr)).len<=100000:=by
    have e:=(M.node_len g.nr o (x.fold (M.nodeE g.nr)) (y.fold (M.nodeE g.nr))).1 O.1;rw[TR.fold,e]at P;omega
  have HP:=ua ah;have ay:p+d<=100000:=by omega
  have av:IntKind.i64.wrap ((p:Int)+(d:Int))=(p:Int)+(d:Int):=by have:=ux (p+d) (by omega);push_cast at this;exact this
  have JX:=ua fun (W:World) (k:Below w.heap.size w W) (q:Nat) (qv:Int) (e:qv=q) (R:q+d<=100000)=>IX.out off c q j qv W e f.out.symm r.out.2.2.1 (by have:=f.out;omega) (by have:=f.out;omega) (HX.out.later k) (Y.out.later k) (by have:=s.out;omega)
  clear hx hy au O hG hj aj ah IX;rcases h with h | h
  · have I:Hid (TR.fold (M.nodeE g.nr) (.bn o x y)=.seq (x.fold (M.nodeE g.nr)) (y.fold (M.nodeE g.nr))):=by show _=_;simp[TR.fold,M.nodeE,h]
    rw[h]at A;clear P h;go_enter Tryz.func55,Tryz.ntmps55;go_wp2_with fail;refine (ufg (HT.out.later (vb w _ _)) r.out J.out (by omega)).mono ?_
    rintro e W ⟨rfl,S⟩;subst W;rw[f.out];go_wp2_with fail;generalize t:(w.alloc _).alloc _=X;have i:Hid (Below w.heap.size w X):=t▸vb w _ _;have H:Box X w.heap.size #[.slice ra g.nr rc,.slice la g.nb lc]:=t▸(uw w _ _).al _;clear t A c1 B;refine (JX.out X i.out p p rfl (by omega)).mono ?_
    rintro e W2 ⟨a2,n2,B,L2,rfl,Z,F,G⟩;have U:Hid (Below w.heap.size w W2):=ud i.out G.out.bel;have ac:=H.on G.out.bel;have y0:W2.cell? ⟨w.heap.size,0,none⟩=some (.slice ra g.nr rc):=ac.x.1 0;have y1:W2.cell? ⟨w.heap.size,1,none⟩=some (.slice la g.nb lc):=ac.x.1 1;have u:=(uae Z.out F.out).1;rw[M.emit_len,s.out]at u;have E:=ua u;clear ac u;go_wp2_with fail;go_region_held3 (fun W'=>W'.cell? ⟨w.heap.size,0,none⟩=some (.slice ra g.nr rc)/\W'.cell? ⟨w.heap.size,1,none⟩=some (.slice la g.nb lc))
      (first|exact⟨u0,u1⟩ | exact⟨y0,y1⟩ | go_keep)
      (first
        | (refine ub8 upo rfl (.tmp 124) 71 rfl (y1:=.slice (some ⟨b,off,none⟩) j c) (by simp[Act.eval,Act.put]) ((uaf (w:=W2.drew) (k:=d) (HX.out.later U.out.drew) r.out.2.2.1 R (by have:=f.out;omega) f.out.symm s.out).mono ?_)
           rintro e W ⟨rfl,S⟩;subst W;refine⟨_,rfl,?_⟩)
        | (refine xK upp rfl (.tmp 121) (.tmp 122) (.tmp 126) 28 71 3 rfl (y1:=.agg #[.slice ra g.nr rc,.slice la g.nb lc]) (y2:=.slice (some ⟨b,off+j*3,none⟩) (m-j) (c-j)) (y3:=.int .i64 ((p:Int)+(d:Int))) (by simp[Act.eval,Act.put]) (by simp[Act.eval,Act.put]) (by simp[Act.eval,Act.put,av]) ((IY.out _ _ (p+d) _ _ W2.drew (by omega) (by omega) r.out.2.2.2 (by omega) (by omega) (f.out▸HY.out.later U.out.drew) (Y.out.later U.out.drew) HP.out).mono ?_)
           rintro e W3 ⟨a3,n3,c3,N,rfl,am,ae,aa⟩;have u0:=uc (w:=W2.drew) (a:=⟨w.heap.size,0,none⟩) (v:=.slice ra g.nr rc) y0 aa.out.bel;have u1:=uc (w:=W2.drew) (a:=⟨w.heap.size,1,none⟩) (v:=.slice la g.nb lc) y1 aa.out.bel;refine⟨_,rfl,?_⟩)
        | (refine urY (w0:=X) (w1:=W2.drew) (L:=L2) (L2:=N) rfl (.tmp 120) (.tmp 127) rfl (v:=.slice a2 n2 B) (y:=.slice a3 n3 c3) (by simp[Act.eval,Act.put]) (by simp[Act.eval,Act.put]) (G.out.later (Below.refl _ W2).drew) aa.out (by have h1:=E.out;have h2:=(uae am.out ae.out).1;rw[M.emit_len]at h2;have:=HP.out;omega) ?_
           intro W4 L4 n4 a4 c4 D E2 z;have ad:=H.on z.out.bel;have u0:W4.cell? ⟨w.heap.size,0,none⟩=some (.slice ra g.nr rc):=ad.x.1 0;have u1:W4.cell? ⟨w.heap.size,1,none⟩=some (.slice la g.nb lc):=ad.x.1 1;clear ad))
    all_goals go_goals
    all_goals go_wp2
    all_goals go_ret
    all_goals exact qt (z.out.since i.out) (by rw[D.out,I.out,uG,List.map_append,F.out,ae.out,s.out])
  · have I:Hid (TR.fold (M.nodeE g.nr) (.bn o x y)=.alt (x.fold (M.nodeE g.nr)) (y.fold (M.nodeE g.nr))):=by show _=_;simp[TR.fold,M.nodeE,h]
    obtain⟨C,T⟩:=nm (TR.fold (M.nodeE g.nr) (.bn o x y)).len;have ap:=ua T;have ai:d+(y.fold (M.nodeE g.nr)).len+2=C:=by rw[<-T,I.out,EX.len,s.out]
    rw[T]at P;have ag:=ua ai;rw[h]at A;have az:p+C<=100000:=P;have ax:p+d+2<=100000:=by omega
    clear h T ai;go_enter Tryz.func55,Tryz.ntmps55;go_wp2_with fail;refine (ufg (HT.out.later (vb w _ _)) r.out J.out (by omega)).mono ?_
    rintro e W ⟨rfl,S⟩;subst W;rw[f.out];go_wp2_with fail;refine (uaf (k:=d) (HX.out.later (vb w _ _)) r.out.2.2.1 R (by have:=f.out;omega) f.out.symm s.out).mono ?_
    rintro e W ⟨rfl,S⟩;subst W;go_wp2_with fail;generalize t:(w.alloc _).alloc _=X;have i:Hid (Below w.heap.size w X):=t▸vb w _ _;have H:Box X w.heap.size #[.slice ra g.nr rc,.slice la g.nb lc]:=t▸(uw w _ _).al _;have hs:X.heap.size=w.heap.size+1+1:=by rw[<-t];simp
    rw[<-hs];have R0:=ua (xe (w:=X) 1 0 ((p:Int)+(d:Int)+2) (Below.refl _ _));have B1:=ua (ud i.out (uf X (.cells #[.int .i64 1,.int .i64 0,.int .i64 ((p:Int)+(d:Int)+2),.slice none 0 0] 79)));clear t A c1 B hs;refine (JX.out _ B1.out (p+1) _ (by omega) (by omega)).mono ?_
    rintro e W2 ⟨a2,n2,B,L2,rfl,Z,F,G⟩;have u:=(uae Z.out F.out).1;rw[M.emit_len,s.out]at u;have E:=ua u;clear u;go_wp2_with (at_builtin;refine uaP (L:=[ic 1 0 ((p:Int)+(d:Int)+2)]) (L2:=L2) rfl _ _ rfl rfl rfl R0.out G.out (by show 1+L2.length<=16777216;have:=E.out;omega) ?_;intro W3 N n3 a3 c3 D E2 z;obtain⟨y0,y1,y2⟩:=(H.on z.out.bel).x)
    have B3:=ua (ud i.out z.out.bel);refine (uaf (k:=C) (HT.out.later B3.out) r.out R (by simp only[TR.n];have:=J.out;omega) (by simp only[TR.n];have:=J.out;omega) ap.out).mono ?_
    rintro e W ⟨rfl,S⟩;subst W;go_wp2_with (at_builtin;refine uaP (L:=N) (L2:=[ic 2 0 ((p:Int)+(C:Int))]) rfl _ _ rfl rfl rfl z.out (xe 2 0 ((p:Int)+(C:Int)) (Below.refl _ W3)) (by show N.length+1<=16777216;have:=E.out;rw[D.out,List.length_append];show 1+L2.length+1<=16777216;omega) ?_;intro W4 L4 n4 a4 c4 G1 G2 V;obtain⟨v0,v1,v2⟩:=(H.on V.out.bel).x)
    have B4:=ua (ud i.out V.out.bel);refine (IY.out _ _ (p+d+2) _ _ W4 (by omega) (by omega) r.out.2.2.2 (by omega) (by omega) (f.out▸HY.out.later B4.out) (Y.out.later B4.out) (by have:=ag.out;omega)).mono ?_
    rintro e W5 ⟨a5,n5,c5,L5,rfl,an,af,ao⟩;have ab:=(uae an.out af.out).1;rw[M.emit_len]at ab;have ak:=ua ab;clear ab;go_wp2_with (at_builtin;refine uaP (L:=L4) (L2:=L5) rfl _ _ rfl rfl rfl V.out ao.out (by have:=E.out;have:=ak.out;have:=HP.out;rw[G1.out,D.out,List.length_append,List.length_append];show 1+L2.length+1+L5.length<=16777216;omega) ?_;intro W6 L6 n6 a6 c6 K1 K2 K3)
    go_ret;refine qt (K3.out.since i.out) ?_;rw[K1.out,G1.out,D.out,I.out,uG,List.map_append,List.map_append,List.map_append,F.out,af.out];show [ins 1 0 ((p:Int)+(d:Int)+2)]++uG (plc g) _ (p+1)++[ins 2 0 ((p:Int)+(C:Int))]++uG (plc g) _ (p+d+2)=_;rw[s.out,<-ag.out,show (p:Int)+(d:Int)+2=((p+d+2:Nat):Int) by omega,show (p:Int)+((d+(y.fold (M.nodeE g.nr)).len+2:Nat):Int)=((p+d+(y.fold (M.nodeE g.nr)).len+2:Nat):Int) by omega]
    simp
theorem ulf(hq:Q b)(o:OpD)(x:TR)(ix:EIs ra la rc lc g Q b x):EIs ra la rc lc g Q b (.un o x):=by
  intro off c p l pv w ae hl I hc hn hT hG hp;subst ae;have HT:=ua hT;have G:=ua I;have HG:=ua hG;have IX:=ua ix;clear ix;obtain⟨hx,s,⟨sa,sc,Z,af⟩,D⟩:=hT;have HX:=ua hx;simp only[TR.n]at hc hn hl;obtain⟨m,hm⟩:=nm x.n;rw[hm]at s Z D hc hn hl;have d:=ua hm;subst hl;have x2:((m+1:Nat):Int)-1=(m:Int):=by omega
  have x3:(m:Int)<((m+1:Nat):Int):=by omega
  have z6:=ux m (by omega)
  have f1:m<c:=by omega
  have f2:m<=c:=by omega
  have f3:¬c=0:=by omega
  have ag:b<w.heap.size:=ub s;have i:o.kind=6\/o.kind=7:=by have:=I.1;unfold M.ar at this;split at this<;>(try split at this)<;>omega
  obtain⟨a,J⟩:=nm (TR.fold (M.nodeE g.nr) (.un o x)).len;have ab:=ua J;have ac:(x.fold (M.nodeE g.nr)).len+2=a:=by rw[<-J,TR.fold,(M.node_len g.nr o (x.fold (M.nodeE g.nr)) default).2.1 I.1];unfold wt;rw[if_neg (by omega),if_pos (by omega)]
  have j:=ua ac;rw[J]at hp;have ah:p<=100000:=by omega
  have ai:a<=100000:=by omega
  clear hx af I hG hm J ac;have ad:∀k N O,(o.kind=6/\k=1/\N=3/\O=(p:Int)+1)\/(o.kind=7/\k=4/\N=5/\O=(0:Int))->uG (plc g) (TR.fold (M.nodeE g.nr) (.un o x)) p = [ins k 0 ((p:Int)+(a:Int))]++uG (plc g) (x.fold (M.nodeE g.nr)) (p+1)++[ins N 0 O]:=by
    intro k N O h;rw[<-j.out,show (p:Int)+(((x.fold (M.nodeE g.nr)).len+2:Nat):Int)=((p+(x.fold (M.nodeE g.nr)).len+2:Nat):Int) by omega]
    rcases h with⟨h,rfl,rfl,rfl⟩|⟨h,rfl,rfl,rfl⟩
    · simp[TR.fold,M.nodeE,h,uG]
    · simp[TR.fold,M.nodeE,h,uG]
  have H:=ua ad;clear ad;rcases i with i | i
  · have U:=ua (H.out 1 3 ((p:Int)+1) (.inl ⟨i,rfl,rfl,rfl⟩))
    rw[i]at s;clear i H;go_enter Tryz.func55,Tryz.ntmps55;go_wp2_with fail;refine (uaf (k:=a) (HT.out.later (vb w _ _)) G.out hq (by simp only[TR.n];have:=d.out;omega) (by simp only[TR.n];have:=d.out;omega) ab.out).mono ?_
    rintro e W ⟨rfl,hw⟩;subst W;go_wp2_with fail;generalize r:(w.alloc _).alloc _=X;have u:Hid (Below w.heap.size w X):=r▸vb w _ _;have E:X.heap.size=w.heap.size+1+1:=by rw[<-r];simp
    rw[<-E];generalize f:(X.alloc _).alloc _=Y;have v:Hid (Below X.heap.size X Y):=f▸vb X _ _;have aa:Box Y (X.heap.size+1) #[.int .i64 3,.int .i64 0,.int .i64 ((p:Int)+1),.slice none 0 0]:=f▸yo _ _ _ _ (by simp)
    have F:Y.heap.size=X.heap.size+1+1:=by rw[<-f];simp
    rw[<-F];have R0:=ua (xe (w:=Y) 1 0 ((p:Int)+(a:Int)) (Below.refl _ _));have t:=ua (ud (ud u.out v.out) (uf Y (.cells #[.int .i64 1,.int .i64 0,.int .i64 ((p:Int)+(a:Int)),.slice none 0 0] 79)));clear r f s Z D E F;refine (IX.out off c (p+1) m _ _ (by omega) d.out.symm G.out.2.2 (by have:=d.out;omega) (by have:=d.out;omega) (HX.out.later t.out) (HG.out.later t.out) (by have:=j.out;omega)).mono ?_
    rintro e W2 ⟨a2,n2,D,L2,rfl,S,B,T⟩;have q:=(uae S.out B.out).1;rw[M.emit_len]at q;have A:=ua q;clear q;go_wp2_with (first
      | (at_builtin;refine uaP (L:=[ic 1 0 ((p:Int)+(a:Int))]) (L2:=L2) rfl _ _ rfl rfl rfl R0.out T.out (by show 1+L2.length<=16777216;have:=A.out;have:=j.out;omega) ?_;intro V C n3 a3 c3 y E2 z;obtain⟨y0,y1,y2⟩:=(aa.on z.out.bel).x)
      | (at_builtin;refine uaP (L:=C) (L2:=[ic 3 0 ((p:Int)+1)]) rfl _ _ rfl rfl rfl z.out (xe 3 0 ((p:Int)+1) (Below.refl _ V)) (by show C.length+1<=16777216;have:=A.out;have:=j.out;rw[y.out,List.length_append];show 1+L2.length+1<=16777216;omega) ?_;intro W4 L4 n4 a4 c4 P G2 R))
    go_ret;refine qt (R.out.since (ud u.out v.out)) ?_;rw[P.out,y.out,List.map_append,List.map_append,B.out,U.out];rfl
  · have U:=ua (H.out 4 5 (0) (.inr ⟨i,rfl,rfl,rfl⟩))
    rw[i]at s;clear i H;go_enter Tryz.func55,Tryz.ntmps55;go_wp2_with fail;refine (uaf (k:=a) (HT.out.later (vb w _ _)) G.out hq (by simp only[TR.n];have:=d.out;omega) (by simp only[TR.n];have:=d.out;omega) ab.out).mono ?_
    rintro e W ⟨rfl,hw⟩;subst W;go_wp2_with fail;generalize r:(w.alloc _).alloc _=X;have u:Hid (Below w.heap.size w X):=r▸vb w _ _;have E:X.heap.size=w.heap.size+1+1:=by rw[<-r];simp
    rw[<-E];generalize f:(X.alloc _).alloc _=Y;have v:Hid (Below X.heap.size X Y):=f▸vb X _ _;have aa:Box Y (X.heap.size+1) #[.int .i64 5,.int .i64 0,.int .i64 (0),.slice none 0 0]:=f▸yo _ _ _ _ (by simp)
    have F:Y.heap.size=X.heap.size+1+1:=by rw[<-f];simp
    rw[<-F];have R0:=ua (xe (w:=Y) 4 0 ((p:Int)+(a:Int)) (Below.refl _ _));have t:=ua (ud (ud u.out v.out) (uf Y (.cells #[.int .i64 4,.int .i64 0,.int .i64 ((p:Int)+(a:Int)),.slice none 0 0] 79)));clear r f s Z D E F;refine (IX.out off c (p+1) m _ _ (by omega) d.out.symm G.out.2.2 (by have:=d.out;omega) (by have:=d.out;omega) (HX.out.later t.out) (HG.out.later t.out) (by have:=j.out;omega)).mono ?_
    rintro e W2 ⟨a2,n2,D,L2,rfl,S,B,T⟩;have q:=(uae S.out B.out).1;rw[M.emit_len]at q;have A:=ua q;clear q;go_wp2_with (first
      | (at_builtin;refine uaP (L:=[ic 4 0 ((p:Int)+(a:Int))]) (L2:=L2) rfl _ _ rfl rfl rfl R0.out T.out (by show 1+L2.length<=16777216;have:=A.out;have:=j.out;omega) ?_;intro V C n3 a3 c3 y E2 z;obtain⟨y0,y1,y2⟩:=(aa.on z.out.bel).x)
      | (at_builtin;refine uaP (L:=C) (L2:=[ic 5 0 (0)]) rfl _ _ rfl rfl rfl z.out (xe 5 0 (0) (Below.refl _ V)) (by show C.length+1<=16777216;have:=A.out;have:=j.out;rw[y.out,List.length_append];show 1+L2.length+1<=16777216;omega) ?_;intro W4 L4 n4 a4 c4 P G2 R))
    go_ret;refine qt (R.out.since (ud u.out v.out)) ?_;rw[P.out,y.out,List.map_append,List.map_append,B.out,U.out];rfl
theorem ulg(u:M.Sound g)(o:OpD):EIs ra la rc lc g Q b (.lf o):=by
  intro off c p l pv w ad U hk T hn hT O hp;subst ad;simp only[TR.n]at T hn U;subst U;obtain⟨q,⟨r,s,c1,V⟩,N⟩:=hT;have J:=ua O;have HS:=ua V;have f1:0<c:=T;have f3:¬c=0:=by omega
  have af:b<w.heap.size:=ub q;obtain⟨y,h⟩:=hk;obtain⟨j,i⟩:=uea h;have a:o.kind=0\/o.kind=1\/o.kind=2\/o.kind=3:=by have:=h.1;have:=h.2.1;unfold M.ar at y;split at y<;>(try split at y)<;>omega
  have f:=h.2.2.2.2.2;have hr:=u.r2;have D:=u.l2;have L:=ua u;clear V O u y;rw[i]at N;rcases a with a | a | a | a
  · have m:Hid (TR.fold (M.nodeE g.nr) (.lf o)=.empty):=by show _=_;simp[TR.fold,M.nodeE,a]
    rw[a]at q;clear a f h;go_enter Tryz.func55,Tryz.ntmps55;go_wp2;go_ret;exact qt (IRow.nil (vb w _ _)) (by rw[m.out];rfl)
  · have m:Hid (TR.fold (M.nodeE g.nr) (.lf o)=.set o.sl o.set):=by show _=_;simp[TR.fold,M.nodeE,a]
    have ae:o.sl<=1048576:=by have:=uhy (h.2.2.1 a);omega
    rw[a]at q;clear a f h;go_enter Tryz.func55,Tryz.ntmps55;go_wp2_with (at_builtin;refine upP rfl _ _ rfl rfl rfl (HS.out.later (vb w _ _)) ae ?_;intro W a' c' E1 E2);go_ret;exact qt (uje (x:=⟨⟨0,0,0,o.sl,o.set⟩,a',c'⟩) (S:=New w W) (ud (vb w _ _) E2.out) (E1.out.wide (fun z A=>⟨Nat.le_trans (vb w _ _).size A.1,A.2⟩)) (fun z A=>A)) (by rw[m.out];rfl)
  · have m:Hid (TR.fold (M.nodeE g.nr) (.lf o)=.ref j):=by show _=_;simp[TR.fold,M.nodeE,a,i]
    unfold M.most at f;rw[if_neg (by omega),if_pos a,i]at f
    have E:j<g.nr+g.nb:=by omega
    rw[a]at q;clear a h i;go_enter Tryz.func55,Tryz.ntmps55;go_wp2_with (go_at_call 90;refine (ucy Q ra la rc lc g L.out _ (J.out.later (vb w _ _)) j E).mono ?_;rintro e W ⟨rfl,D⟩;have HW:Hid (Below w.heap.size w W):=ud (vb w _ _) D;clear D);go_ret;exact qt (xe 6 0 (plc g j) HW.out) (by rw[m.out];rfl)
  · have m:Hid (TR.fold (M.nodeE g.nr) (.lf o)=.thr j (g.nr+j)):=by show _=_;simp[TR.fold,M.nodeE,a,i]
    obtain⟨t,F⟩:=nm (g.nr+j);have ab:=ua F;have aa:Hid (M.tg g.nr o=t):=by show _=_;unfold M.tg;rw[if_pos a,i];exact F
    have ac:=ua (ulh ra la r g.nr rc g.nb lc s o · (.inr a) a i (by omega) (by unfold M.most at f;rw[if_pos a]at f;omega) (by omega))
    have E:t<g.nr+g.nb:=by unfold M.most at f;rw[if_pos a,i]at f;omega
    rw[a]at q;clear a h i f F;go_enter Tryz.func55,Tryz.ntmps55;go_wp2_with fail;generalize v:(w.alloc _).alloc _=X;have I:Hid (Below w.heap.size w X):=v▸vb w _ _;have Y:Box X w.heap.size #[.slice ra g.nr rc,.slice la g.nb lc]:=v▸(uw w _ _).al _;have G:Box X (w.heap.size+1) #[.int .i64 3,.slice r o.sl s,.int .i64 j]:=v▸yo _ _ _ _ (by simp)
    clear v q c1 N;have C:Hid (∀d,Below X.heap.size X d->d.cell? ⟨w.heap.size,0,none⟩=some (.slice ra g.nr rc)/\d.cell? ⟨w.heap.size,1,none⟩=some (.slice la g.nb lc)/\d.cell? ⟨w.heap.size+1,0,none⟩=some (.int .i64 3)/\d.cell? ⟨w.heap.size+1,1,none⟩=some (.slice r o.sl s)/\d.cell? ⟨w.heap.size+1,2,none⟩=some (.int .i64 j)):=fun W k=>⟨(Y.on k).x.1 0,(Y.on k).x.1 1,(G.on k).x.1 0,(G.on k).x.1 1,(G.on k).x.1 2⟩
    obtain⟨y0,y1,y2,y3,y4⟩:=C.out X (Below.refl _ _);go_region_held3 (fun d=>d.cell? ⟨w.heap.size,0,none⟩=some (.slice ra g.nr rc)/\d.cell? ⟨w.heap.size,1,none⟩=some (.slice la g.nb lc)/\d.cell? ⟨w.heap.size+1,0,none⟩=some (.int .i64 3)/\d.cell? ⟨w.heap.size+1,1,none⟩=some (.slice r o.sl s)/\d.cell? ⟨w.heap.size+1,2,none⟩=some (.int .i64 j))
      (first|exact⟨Z,z1,z2,z3,z4⟩ | exact⟨y0,y1,y2,y3,y4⟩ | go_keep)
      (first
        | (refine yC upm rfl (.tmp 56) (.tmp 57) 28 123 rfl (y1:=.agg #[.slice ra g.nr rc,.slice la g.nb lc]) (y2:=.agg #[.int .i64 3,.slice r o.sl s,.int .i64 j]) (by simp[Act.eval,Act.put]) (by simp[Act.eval,Act.put]) ((ac.out X.drew).mono ?_)
           rintro e W2 ⟨rfl,P⟩;rw[aa.out];have B:Hid (Below X.heap.size X W2):=(Below.refl _ X).drew.trans P;obtain⟨Z,z1,z2,z3,z4⟩:=C.out W2 B.out;clear P;refine⟨_,rfl,?_⟩)
        | (refine yC upn rfl (.tmp 55) (.tmp 58) 28 3 rfl (y1:=.agg #[.slice ra g.nr rc,.slice la g.nb lc]) (y2:=.int .i64 (t:Int)) (by simp[Act.eval,Act.put]) (by simp[Act.eval,Act.put]) ((ucy Q ra la rc lc g L.out W2 (J.out.later (ud I.out B.out)) t E).mono ?_)
           rintro e W3 ⟨rfl,R⟩;have H:=ua (ud B.out R);obtain⟨Z,z1,z2,z3,z4⟩:=C.out W3 H.out;clear R;refine⟨_,rfl,?_⟩))
    all_goals go_goals
    all_goals go_wp2
    all_goals go_ret
    all_goals exact qt (xe 8 j (plc g t) (ud I.out H.out)) (by rw[m.out,ab.out];rfl)
theorem unK(c:M.Sound g)(a:Q b)(T:TR):EIs ra la rc lc g Q b T:=by
  induction T with
  |lf o=>exact ulg c o
  |un o x d=>exact ulf a o x d
  |bn o x y e f=>exact ule a o x y e f
end
open Go.RowKit
open M (OpD ue Gr um EX ins uG yN wt)
theorem ucz Q i la a(z lc n c:Nat)g(s:M.Sound g)B(p:Nat)(f:Int)w(x:f=(p:Int))(v:n<=2000)(t:n<=c)(d:OpsA Q w a n B)(e:M.BodyOK g.nr g.nb n B)(r:GramX Q w i la g)(C:p<=50000) :
  Calls Tryz.prog 55 #[.agg #[.slice i g.nr z,.slice la g.nb lc],.slice a n c,.int .i64 f] w (uf3 (uG (plc g) (M.treeE g.nr n B) p) w):=by
 have k:¬n=0:=λq=>by
  have:=e.2.2;rw[q,M.dep]at this;omega
 rcases d with q|⟨b,off,rfl,y,d⟩
 ·exact absurd q k
 have A:=jU e;have D:=M.wsum_bd B n;obtain⟨T,rfl,l,m,o⟩:=uj9 e;have h:=uhK (Q:=Q) (w:=w) (b:=b) (off:=off) m (λj u=>by rw[Nat.zero_add];exact d j u);rw[Nat.zero_mul,Nat.add_zero]at h;rw[M.treeE,o]at *;exact unK s y T off c p _ f w x rfl l t v h r (by omega)
theorem upq{w0 w}k a t e d f(g:Below w0.heap.size w0 w) :
  IRow w0 (w.alloc (.cells #[.int .i64 k,.int .i64 a,.int .i64 t,.slice none 0 0,.int .i64 e,.int .i64 d,.int .i64 f,.slice none 0 0] 79)) (.slice (some ⟨w.heap.size,0,none⟩) 2 2) [ic k a t,ic e d f]:=by
 have l:(w.alloc (.cells #[.int .i64 k,.int .i64 a,.int .i64 t,.slice none 0 0,.int .i64 e,.int .i64 d,.int .i64 f,.slice none 0 0] 79)).heap.size=w.heap.size+1:=by simp
 have hb':=g.size;have h:∀j,j<8->(w.alloc (.cells #[.int .i64 k,.int .i64 a,.int .i64 t,.slice none 0 0,.int .i64 e,.int .i64 d,.int .i64 f,.slice none 0 0] 79)).cell? ⟨w.heap.size,j,none⟩=(uH [ic k a t,ic e d f])[j]?:=λj c=>by
  match j,c with
  |0,_=>exact cN w.heap.size rfl rfl
  |1,_=>exact cN w.heap.size rfl rfl
  |2,_=>exact cN w.heap.size rfl rfl
  |3,_=>exact cN w.heap.size rfl rfl
  |4,_=>exact cN w.heap.size rfl rfl
  |5,_=>exact cN w.heap.size rfl rfl
  |6,_=>exact cN w.heap.size rfl rfl
  |7,_=>exact cN w.heap.size rfl rfl
  |j+8,c=>omega
 refine⟨λb=>b=w.heap.size,λ_=>False,?_,?_,?_,λb q=>q.elim,ud g (uf w _),.inr (by simp)⟩
 ·refine .inr ⟨w.heap.size,2,rfl,rfl,rfl,Nat.le_refl _,λj c=>?_,λj c=>⟨?_,?_⟩⟩
  ·have hj':j<8:=(by simpa[uH,icv] using c);exact h j hj'
  ·rw[h j (by omega)];match j,c with
   |0,_=>rfl
   |1,_=>rfl
   |2,_=>rfl
   |3,_=>rfl
   |4,_=>rfl
   |5,_=>rfl
   |6,_=>rfl
   |7,_=>rfl
   |j+8,c=>omega
  exact uaE w _ 79 w.heap.size j (Nat.le_refl _) (by rw[l];omega)
 ·intro y i;simp at i;rcases i with rfl|rfl<;>exact .inl rfl
 rintro b rfl;exact⟨hb',by rw[l];omega,λq=>q⟩
theorem Ints.inw{Q k w a n S}(h:Ints Q k w a n S):Ints (Of w) k w a n S:=by
 by_cases e:n=0
 ·exact .inl e
 rcases h with h|⟨b,off,d,f,c⟩
 ·exact .inl h
 exact .inr ⟨b,off,d,ub (c 0 (by omega)),c⟩
theorem OpC.inw{Q w b o d}(h:OpC Q w b o d):OpC (Of w) w b o d:=by
 obtain⟨e,⟨a,c,f,g⟩,i⟩:=h;exact⟨e,⟨a,c,f,g.inw⟩,i⟩
theorem OpsA.inw{Q w a n B}(h:OpsA Q w a n B):OpsA (Of w) w a n B:=by
 by_cases e:n=0
 ·exact .inl e
 rcases h with h|⟨b,off,d,g,c⟩
 ·exact .inl h
 exact .inr ⟨b,off,d,ub (c 0 (by omega)).kind,λi f=>(c i f).inw⟩
theorem GramX.inw{Q w m la g}(h:GramX Q w m la g):GramX (Of w) w m la g:=by
 refine⟨?_,?_⟩
 ·by_cases e:g.nr=0
  ·exact .inl e
  rcases h.rules with q|⟨b,off,j,n,f⟩
  ·exact .inl q
  have k:b<w.heap.size:=by obtain⟨⟨⟨a,c,d,_⟩,_⟩,_⟩:=f 0 (by omega);exact ub d
  exact .inr ⟨b,off,j,k,λi l=>let ⟨⟨⟨a,c,d,hn⟩,⟨a',c',c1,hb⟩⟩,hc⟩:=f i l;⟨⟨⟨a,c,d,hn.inw⟩,⟨a',c',c1,hb.inw⟩⟩,hc⟩⟩
 by_cases e:g.nb=0
 ·exact .inl e
 rcases h.labs with q|⟨b,off,j,n,f⟩
 ·exact .inl q
 have k:b<w.heap.size:=by obtain⟨⟨⟨a,c,d,_⟩,_⟩,_⟩:=f 0 (by omega);exact ub d
 exact .inr ⟨b,off,j,k,λi l=>let ⟨⟨⟨a,c,d,hn⟩,hh,⟨a',c',c1,hb⟩⟩,hc⟩:=f i l;⟨⟨⟨a,c,d,hn.inw⟩,hh,⟨a',c',c1,hb.inw⟩⟩,hc⟩⟩
def vW(g:Gr)(k:Nat):List um:=M.progC (plc g) (opG g) (trG g) (kz g) k
theorem kG g k:(vW g k).length=PL g k:=M.progC_len _ _ _ _ _ _
theorem ud3 g k(h:0<(nd g k).bl):vW g (k+1)=vW g k++[opG g k]++uG (plc g) (trG g k) (PL g k+1)++[ins 11 0 0]++[ins 7 0 0]:=by
 have e:kz g k=true:=by simp[kz,h]
 unfold vW;rw[M.progC,if_pos e,show(M.progC (plc g) (opG g) (trG g) (kz g) k).length=PL g k from kG g k];unfold M.nodeC;simp
theorem ud4 g k(h:¬0<(nd g k).bl):vW g (k+1)=vW g k:=by
 have e:¬kz g k=true:=by simp[kz,h]
 unfold vW;rw[M.progC,if_neg e]
def usg(W1:World)(g:Gr)(b a:Value)(wr:World):Prop:=∃(k:Nat) (L:List IC),k<=g.nr+g.nb/\a=.int .i64 (k:Int)/\L.map IC.d=vW g k/\IRow W1 wr b L
theorem uer Q a la b lc g(s:M.Sound g)w(hG:GramX Q w a la g) :
  Calls Tryz.prog 21 #[.agg #[.slice a g.nr b,.slice la g.nb lc]] w (uf3 (vW g (g.nr+g.nb)) w):=by
 have HG:Hid (GramX (Of w) w a la g):=hG.inw;have y:Hid (M.Sound g):=s;have i:=s.r2;have j:=s.l2;have av:=s.r1;have aw:Hid (vW g 0 = [ins 6 0 2,ins 12 0 0]):=by
  show _=_;have hb:0<(nd g 0).bl:=by
   rw[yd g av];by_cases q:(g.rule 0).bl=0
   ·have:=(s.rb 0 av).2.2;rw[q,M.dep]at this;omega
   omega
  have:plc g 0=2:=by rw[ud1,if_pos hb];rfl
  unfold vW;rw[M.progC,this]
 have R:Hid (Below w.heap.size w (w.alloc (.cells #[.slice a g.nr b,.slice la g.nb lc] 28))):=uf w _;have g0:Hid ((w.alloc (.cells #[.slice a g.nr b,.slice la g.nb lc] 28)).cell? ⟨w.heap.size,0,none⟩=some (.slice a g.nr b)):=cN w.heap.size rfl rfl;have g1:Hid ((w.alloc (.cells #[.slice a g.nr b,.slice la g.nb lc] 28)).cell? ⟨w.heap.size,1,none⟩=some (.slice la g.nb lc)):=cN w.heap.size rfl rfl;have R0:=upq (w:=w.alloc (.cells #[.slice a g.nr b,.slice la g.nb lc] 28)) 6 0 2 12 0 0 (Below.refl _ _);rw[World.size_alloc]at R0;have ax:Hid _:=R0;clear R0 hG s;go_enter Tryz.func21,Tryz.ntmps21;go_wp2;generalize w.alloc (.cells #[.slice a g.nr b,.slice la g.nb lc] 28)=X at *;go_loopw [3,4] (λov iv wr=>usg X g ov iv wr) (λ_ iv _=>g.nr+g.nb-(intOf iv).toNat)
 case atStart=>exact⟨0,_,Nat.zero_le _,rfl,by rw[aw.out];rfl,ax.out⟩
 case round =>
  obtain⟨k,L,hk,rfl,hL,H⟩:=hrel;obtain⟨oa,oc,rfl⟩:=H.shape;have S:Hid (L.map IC.d=vW g k):=hL;have x:Hid (IRow X wr (.slice oa L.length oc) L):=H;have T:Hid (L.length=PL g k):=by show _=_;rw[<-kG,<-hL,List.length_map]
  have a1:=ubI y.out k hk;have p:=uc g0.out H.bel;have y1:=uc g1.out H.bel;have lw:=ub p;clear hL H;go_wp2_with fail;refine(uhz a la g.nr b g.nb lc wr i j).mono ?_;rintro e W1 ⟨rfl,W⟩;have Y:Hid (Below wr.heap.size wr W1):=W;replace p:=uc p W;replace y1:=uc y1 W;have a8:=ub p;clear W;by_cases ah:k<g.nr+g.nb
  ·have hlt':(k:Int)<((g.nr+g.nb:Nat):Int):=(by omega);have ai:Hid (Below w.heap.size w W1):=ud (ud R.out x.out.bel) Y.out;go_wp2_with fail;refine(qu (Of w) a la b lc g _ (HG.out.later ai.out) i j k ah).mono ?_;rintro e W2 ⟨⟨a2,c2,rfl,aq,ao⟩,I⟩;have Z:Hid (Below wr.heap.size wr W2):=ud Y.out I;have al:Hid (OpsA (Of w) W2 a2 (nd g k).bl (nd g k).body):=aq;have ak:Hid ((nd g k).bl<=c2):=ao;have aj:Hid (Below w.heap.size w W2):=ud ai.out I;replace p:=uc p I;replace y1:=uc y1 I;have a9:=ub p;have aa:Hid ((nd g k).bl<=2000):=uj6 y.out ah;clear aq ao I;by_cases V:0<(nd g k).bl
   ·have f0:(((nd g k).bl:Int)==0)=false:=(by simp;omega);have ac:Hid (M.BodyOK g.nr g.nb (nd g k).bl (nd g k).body):=(kU y.out ah).elim (λq=>by omega) id;have an:Hid (vW g (k+1)=vW g k++[opG g k]++uG (plc g) (trG g k) (PL g k+1)++[ins 11 0 0]++[ins 7 0 0]):=ud3 g k V;have r:Hid ((trG g k).len<=4000):=by
     show(M.treeE g.nr (nd g k).bl (nd g k).body).len<=4000;have:=M.wsum_bd (nd g k).body (nd g k).bl;rw[jU ac.out];have:=aa.out;omega
    have X0:Hid (X.cell? ⟨w.heap.size,0,none⟩=some (.slice a g.nr b)):=g0.out;have X1:Hid (X.cell? ⟨w.heap.size,1,none⟩=some (.slice la g.nb lc)):=g1.out;obtain⟨P,O,au,az⟩:∃P O:Int,opG g k=ins P O 0/\((k<g.nr/\P=9/\O=(k:Int))\/(¬k<g.nr/\P=10/\O=(k:Int)-(g.nr:Int))):=by
     unfold opG;by_cases e:k<g.nr
     ·exact⟨9,k,by rw[if_pos e],.inl ⟨e,rfl,rfl⟩⟩
     exact⟨10,(k:Int)-(g.nr:Int),by rw[if_neg e];congr 1;omega,.inr ⟨e,rfl,rfl⟩⟩
    have am:Hid (opG g k=ins P O 0):=au;obtain⟨U,ap⟩:∃U:Bool,decide ((g.nr:Int)<=(k:Int))=U:=⟨_,rfl⟩;clear au V;rcases az with⟨e,rfl,rfl⟩|⟨e,rfl,rfl⟩
    ·obtain rfl:U=false:=(by rw[<-ap];simp;omega);have ae:Hid (IRow X (W2.alloc (.cells #[.int .i64 9,.int .i64 (k:Int),.int .i64 0,.slice none 0 0] 79)) (.slice oa L.length oc) L):=x.out.later (ud Z.out (uf W2 _));have o:=xe (w:=W2.alloc (.cells #[.int .i64 9,.int .i64 (k:Int),.int .i64 0,.slice none 0 0] 79)) 9 (k:Int) 0 (Below.refl _ _);rw[World.size_alloc]at o;have ad:Hid _:=o;clear o;go_wp2_with (at_builtin;refine uaP (L:=L) (L2:=[ic 9 (k:Int) 0]) rfl _ _ rfl rfl rfl ae.out ad.out (by show L.length+1<=16777216;have:=T.out;omega) ?_;intro E B N a3 c3 u f h;have u0:=uc X0.out h.out.bel;have u1:=uc X1.out h.out.bel;have a0:=ub u0);have c:Hid (N=PL g k+1):=(by show _=_;rw[f.out,u.out,List.length_append,T.out];rfl);have t:Hid (Below w.heap.size w E):=ud R.out h.out.bel;have ag:Hid (Stay (Of w) W2 E):=λz J=>(t.out.block z J).trans (aj.out.block z J).symm
     refine(ucz (Of w) a la a2 b lc (nd g k).bl c2 g y.out (nd g k).body N _ _ rfl aa.out ak.out (al.out.on ag.out) ac.out (HG.out.later t.out) (by have:=c.out;omega)).mono ?_;rintro e W4 ⟨a4,n4,c4,n,rfl,ab,v,af⟩;have m:Hid (n.length=(trG g k).len):=(by show _=_;rw[(uae ab.out v.out).1,M.emit_len];rfl);go_wp2_with (first
      |(at_builtin;refine uaP (L:=B) (L2:=n) rfl _ _ rfl rfl rfl h.out af.out (by have i:=c.out;have j:=f.out;have F:=m.out;have G:=r.out;omega) ?_;intro W5 C n5 a5 c5 l G2 G3)
      |(at_builtin;refine uaP (L:=C) (L2:=[ic 11 0 0]) rfl _ _ rfl rfl rfl G3.out (xe 11 0 0 (Below.refl _ W5)) (by show C.length+1<=16777216;have i:=c.out;have j:=f.out;have F:=m.out;have G:=r.out;rw[l.out,List.length_append];omega) ?_;intro W6 D n6 a6 c6 A J2 J3)
      |(at_builtin;refine uaP (L:=D) (L2:=[ic 7 0 0]) rfl _ _ rfl rfl rfl J3.out (xe 7 0 0 (Below.refl _ W6)) (by show D.length+1<=16777216;have i:=c.out;have j:=f.out;have F:=m.out;have G:=r.out;rw[A.out,l.out,List.length_append,List.length_append];show B.length+n.length+1+1<=16777216;omega) ?_;intro W7 L7 n7 a7 c7 K1 K2 K3))
     go_roundw
     case rel =>
      refine⟨k+1,L7,by omega,by go_num,?_,K3.out⟩;rw[K1.out,A.out,l.out,u.out,an.out,am.out,List.map_append,List.map_append,List.map_append,List.map_append,S.out,v.out,c.out];rfl
     case measure=>simp[intOf];omega
    obtain rfl:U=true:=(by rw[<-ap];simp;omega);have ae:Hid (IRow X (W2.alloc (.cells #[.int .i64 10,.int .i64 ((k:Int)-(g.nr:Int)),.int .i64 0,.slice none 0 0] 79)) (.slice oa L.length oc) L):=x.out.later (ud Z.out (uf W2 _));have o:=xe (w:=W2.alloc (.cells #[.int .i64 10,.int .i64 ((k:Int)-(g.nr:Int)),.int .i64 0,.slice none 0 0] 79)) 10 ((k:Int)-(g.nr:Int)) 0 (Below.refl _ _);rw[World.size_alloc]at o;have ad:Hid _:=o;clear o;go_wp2_with (at_builtin;refine uaP (L:=L) (L2:=[ic 10 ((k:Int)-(g.nr:Int)) 0]) rfl _ _ rfl rfl rfl ae.out ad.out (by show L.length+1<=16777216;have:=T.out;omega) ?_;intro E B N a3 c3 u f h;have u0:=uc X0.out h.out.bel;have u1:=uc X1.out h.out.bel;have a0:=ub u0);have c:Hid (N=PL g k+1):=(by show _=_;rw[f.out,u.out,List.length_append,T.out];rfl);have t:Hid (Below w.heap.size w E):=ud R.out h.out.bel;have ag:Hid (Stay (Of w) W2 E):=λz J=>(t.out.block z J).trans (aj.out.block z J).symm
    refine(ucz (Of w) a la a2 b lc (nd g k).bl c2 g y.out (nd g k).body N _ _ rfl aa.out ak.out (al.out.on ag.out) ac.out (HG.out.later t.out) (by have:=c.out;omega)).mono ?_;rintro e W4 ⟨a4,n4,c4,n,rfl,ab,v,af⟩;have m:Hid (n.length=(trG g k).len):=(by show _=_;rw[(uae ab.out v.out).1,M.emit_len];rfl);go_wp2_with (first
     |(at_builtin;refine uaP (L:=B) (L2:=n) rfl _ _ rfl rfl rfl h.out af.out (by have i:=c.out;have j:=f.out;have F:=m.out;have G:=r.out;omega) ?_;intro W5 C n5 a5 c5 l G2 G3)
     |(at_builtin;refine uaP (L:=C) (L2:=[ic 11 0 0]) rfl _ _ rfl rfl rfl G3.out (xe 11 0 0 (Below.refl _ W5)) (by show C.length+1<=16777216;have i:=c.out;have j:=f.out;have F:=m.out;have G:=r.out;rw[l.out,List.length_append];omega) ?_;intro W6 D n6 a6 c6 A J2 J3)
     |(at_builtin;refine uaP (L:=D) (L2:=[ic 7 0 0]) rfl _ _ rfl rfl rfl J3.out (xe 7 0 0 (Below.refl _ W6)) (by show D.length+1<=16777216;have i:=c.out;have j:=f.out;have F:=m.out;have G:=r.out;rw[A.out,l.out,List.length_append,List.length_append];show B.length+n.length+1+1<=16777216;omega) ?_;intro W7 L7 n7 a7 c7 K1 K2 K3))
    go_roundw
    case rel =>
     refine⟨k+1,L7,by omega,by go_num,?_,K3.out⟩;rw[K1.out,A.out,l.out,u.out,an.out,am.out,List.map_append,List.map_append,List.map_append,List.map_append,S.out,v.out,c.out];rfl
    case measure=>simp[intOf];omega
   have f0:(((nd g k).bl:Int)==0)=true:=(by simp;omega);have ay:Hid (vW g (k+1)=vW g k):=ud4 g k V;clear V;go_wp2;go_roundw
   case rel=>exact⟨k+1,L,by omega,by go_num,by rw[ay.out];exact S.out,x.out.later Z.out⟩
   case measure=>simp[intOf];omega
  obtain rfl:k=g.nr+g.nb:=by omega
  go_wp2;go_ret;exact qt (x.out.since R.out |>.later Y.out) S.out
end Go.Proofs.YtpghlcdkfldlpaaGreat
