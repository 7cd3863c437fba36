import Derived.Test.YtpghlcdkfldlpaaGreatT34
set_option linter.unusedVariables false
set_option linter.unusedSimpArgs false
set_option maxHeartbeats 40000000
set_option maxRecDepth 100000
namespace Go.Proofs.YtpghlcdkfldlpaaGreat
open Go.RowKit
open M (OpD ue Gr)
def xi(t:Tx)(w:World)(e:Ending)(w':World):Prop :=
  ∃code at_ g a b la lc,PRs t code at_ g/\e=.returned (.tuple #[.agg #[.slice a g.nr b,.slice la g.nb lc],.int .i64 code,.int .i64 at_])/\GramX (Of w') w' a la g/\Keep (fun _=>False) w w'
theorem kM{t w w' code at_}(h:PRs t code at_ uaI)(k:Keep (fun _=>False) w w'):xi t w (.returned (.tuple #[.agg #[.slice none 0 0,.slice none 0 0],.int .i64 code,.int .i64 at_])) w' :=
  ⟨code,at_,uaI,none,0,none,0,h,rfl,⟨.inl rfl,.inl rfl⟩,k⟩
theorem vw{w W}(h:Keep (fun _=>False) w W){b o v}(d:w.heap.size<=b):Keep (fun _=>False) w (W.setCell ⟨b,o,none⟩ v) :=
  ⟨h.os,h.tape,h.output,by rw[uh];exact h.size,fun x c a=>(Below.heap_setCell _ _ _ _ (fun e=>by have e':x=b:=e;omega)).trans (h.block x c a)⟩
theorem jN z:∀(l:List (List Int)) (i:Nat),(z∈l->∃k,l[k]? = some z/\xh z l i=((i+k:Nat):Int))/\(z ∉ l->xh z l i = -1)
  | [],i=>⟨(fun h=>by cases h),fun _=>rfl⟩
  |y::r,i=>by
    obtain⟨c,d⟩:=jN z r (i+1);rw[xh];by_cases e:y=z
    · rw[if_pos e]
      subst e;exact⟨fun _=>⟨0,rfl,rfl⟩,fun h=>absurd (by simp) h⟩
    · rw[if_neg e]
      refine⟨fun h=>?_,fun h=>d (fun q=>h (by simp[q]))⟩
      rcases List.mem_cons.1 h with q | q
      · exact absurd q.symm e
      · obtain⟨k,a,b⟩:=c q
        exact⟨k+1,a,by rw[b];congr 1;omega⟩
def jO(l:List Tok)(j:Nat):Bool:=if j=0 then false else kAt l (j-1)==94
theorem ukI{a l j x}(b:l[j]? = some x):qT a (jO l j) (l.drop j)=if x.kind=110/\jO l j=false/\x.nm ∉ a then some x.at_ else qT a (jO l (j+1)) (l.drop (j+1)):=by
  rw[yj b,qT];have e:(x.kind==94)=jO l (j+1):=by
    unfold jO;rw[if_neg (by omega),Nat.add_sub_cancel,ji b]
  rw[e]
def orR(a b:Option Nat):Option Nat:=match a with | some p=>some p | none=>b
theorem uio a q r:vx a (q::r)=orR (qT a false q.body.tk) (vx a r):=by
  rw[vx];cases qT a false q.body.tk<;>rfl
def umq(NS a:Nat)(g c:World)(e:List (List Int))(u:Value)(wr:World):Prop :=
  ∃(i:Nat) (G:Nat->Nat) (f:Value) (cs:List GC),i<=NS/\u=.int .i64 ((i:Nat):Int)/\GVo a g G wr (.slice none 0 0) f [] cs/\cs.map (·.d)=(e.take i).map (fun z=>(⟨z,false,[]⟩:NL))/\Keep (fun b=>b=a) c wr
def ueY(h a:Nat)(m j:World)(e c:List (List Int))(f:List Rl)(u:Value)(wr:World):Prop :=
  ∃(i:Nat) (G:Nat->Nat) (l k:Value) (g cs:List GC),i<=h/\u=.int .i64 ((i:Nat):Int)/\GVo a m G wr l k g cs/\g.map (·.d)=xj e c (f.take i)/\cs.map (·.d)=xm e c (f.take i)/\Keep (fun b=>b=a) j wr
theorem uip Q t a c w(hT:TxA Q w a t) :
    Calls Tryz.prog 5 #[.slice a t.n c] w (xi t w):=by
  have hn:=t.le;have HT:Hid (TxA Q w a t):=hT;clear hT;go_enter Tryz.func5,Tryz.ntmps5;by_cases g5:4000<t.n
  · have g3:(t.n:Int) > 4000:=by omega
    have db:decide ((t.n:Int) > 4000)=true:=decide_eq_true g3;go_wp2;refine bodyPost_ret (v:=.tuple #[.agg #[.slice none 0 0,.slice none 0 0],.int .i64 7,.int .i64 0]) ?_ rfl ?_
    · simp[results,Tryz.f5,go_sem]
    · exact kM (.inl ⟨g5,rfl,rfl,rfl⟩) (Keep.alloc _ _ _)
  · have db:decide ((t.n:Int) > 4000)=false:=decide_eq_false (by omega)
    have ee:t.n<=4000:=by omega
    go_wp2_with fail;obtain⟨w0,dd⟩:∃w0,w0=w.alloc (.cells #[.slice none 0 0,.slice none 0 0] 28):=⟨_,rfl⟩;have cr:Hid (Keep (fun _=>False) w w0):=by rw[dd];exact Keep.alloc _ _ _
    have b9:Hid (w0.heap[w.heap.size]? = some (.cells #[.slice none 0 0,.slice none 0 0] 28)):=by rw[dd];exact yE w _ _ rfl
    rw[<-dd];clear dd;refine (ufU Q t a c w0 (HT.out.keep cr.out)).mono ?_;rintro e W1 ⟨ta,tc,L,rfl,hL,da⟩;have br:Hid (Keep (fun _=>False) w0 W1):=by obtain⟨P,h⟩:=da;exact h.keep
    have ei:(xQ t).length<=tc:=by
      obtain⟨P,h⟩:=da;have hl:L.length=(xQ t).length:=by rw[<-hL,List.length_map]
      rcases h.own with⟨e,q,_⟩|⟨g,cap,e,O,h3,h4,h5,h6⟩
      · omega
      · injection e with e1 e2 e3
        omega
    have c7:Hid (TksA (New w0 W1) W1 ta (xQ t)):=by
      have:=da.read;rw[hL]at this;exact this
    obtain⟨bh,g0⟩:=umr t;have fy:(xQ t).length<=8000:=by have:=ubv (xQ t);omega
    have dy:Hid (∀x∈xQ t,TokF t.n x):=bh;have dz:Hid (wtT (xQ t)<=8000):=by show _<=_;omega
    clear da hL bh g0;obtain⟨TL,d7⟩:∃TL,TL=xQ t:=⟨_,rfl⟩;have dg:Hid (xQ t=TL):=d7.symm;rw[<-d7]at ei c7 fy dy dz ⊢;clear d7;obtain⟨fq,b0⟩:∃n,n=TL.length:=⟨_,rfl⟩;have cx:Hid (fq=TL.length):=b0;rw[<-b0]at ei fy ⊢;clear b0;go_wp2_with fail;have d9:=ug3 (New w0 W1) TL ta tc t.n W1 c7.out (by have:=cx.out;omega)
    rw[<-cx.out]at d9;refine d9.mono ?_;clear d9;rintro e W ⟨rfl,hw⟩;subst W;obtain⟨r1,r2⟩:=ue0 t.n (TL.length+1) TL (by omega)
    cases b3:uaJ t.n (TL.length+1) TL with
    |inl p =>
      --{
      have cn:=r1 p b3;have HP:Hid (PRs t 5 (p:Nat) uaI):=.inr ⟨ee,.inl ⟨p,by rw[dg.out];exact b3,rfl,rfl,rfl⟩⟩
      rw[cn];have im:decide ((p:Int) ≥ 0)=true:=decide_eq_true (by omega)
      have io:(0:Int)<=(p:Int):=by omega
      have E:=br.out.block w.heap.size (by have:=(Array.getElem?_eq_some_iff.1 b9.out).1;exact this) (fun q=>q)
      rw[b9.out]at E;have c0:W1.cell? ⟨w.heap.size,0,none⟩=some (.slice none 0 0):=ui E rfl;have c1:W1.cell? ⟨w.heap.size,1,none⟩=some (.slice none 0 0):=ui E rfl;have f0:W1.frozen? ⟨w.heap.size,0,none⟩=false:=ur E;have f1:W1.frozen? ⟨w.heap.size,1,none⟩=false:=ur E;clear r1 r2 b3 cn E;go_wp2;refine bodyPost_ret (v:=.tuple #[.agg #[.slice none 0 0,.slice none 0 0],.int .i64 5,.int .i64 (p:Int)]) ?_ rfl ?_
      · simp[results,Tryz.f5,go_sem, *]
      · exact kM HP.out (vw (vw (cr.out.trans br.out) (Nat.le_refl _)) (Nat.le_refl _))
      --}
    |inr f =>
      obtain⟨f6,fz,cn⟩:=r2 f b3;rw[cn];have c2:Hid (∀q∈f,q.ok):=f6;have bl:Hid (TL=f.flatMap Rl.tk):=fz;have gq:Hid (uaJ t.n (TL.length+1) TL=.inr f):=b3;clear r1 r2 b3 cn f6 fz;go_wp2_with fail;have fv:=ug0 (New w0 W1) f c2.out ta tc fq W1 (by rw[cx.out,bl.out]) (by rw[<-bl.out];exact c7.out) (by omega) ei
      refine fv.mono ?_;clear fv;rintro e W2 ⟨ra,rc,rfl,fw,bm⟩;have dl:Hid (Keep (fun _=>False) w W2):=(cr.out.trans br.out).trans bm
      have ca:Hid (W2.heap[w.heap.size]? = some (.cells #[.slice none 0 0,.slice none 0 0] 28)):=by
        have Z:=(Array.getElem?_eq_some_iff.1 b9.out).1;have X:=br.out.block w.heap.size Z (fun q=>q)
        have h3:=bm.block w.heap.size (Nat.lt_of_lt_of_le Z br.out.size) (fun q=>q)
        exact (h3.trans X).trans b9.out
      have dt:Hid (RlsA (New w0 W1) W2 ra f):=fw;have b8:Hid (∀code at_ g,xp t.n f code at_ g->PRs t code at_ g):=fun code at_ g h=>.inr ⟨ee,.inr ⟨f,by rw[dg.out];exact gq.out,h⟩⟩
      have bf:Hid (∀q∈f,TokF t.n q.name/\∀x∈q.body.tk,TokF t.n x):=fun q O=>by
        have hm:∀x∈q.tk,TokF t.n x:=fun x hx=>dy.out x (by rw[bl.out];exact List.mem_flatMap.2 ⟨q,O,hx⟩)
        exact⟨hm _ (List.mem_of_getElem? q.name_at),fun x hx=>hm x (by unfold Rl.tk;simp[hx])⟩
      have cd:Hid (wtT (f.flatMap Rl.tk)<=8000):=by rw[<-bl.out];exact dz.out
      have gz:f.length<=8000:=by
        have Z:=ubv (f.flatMap Rl.tk);have X:∀l:List Rl,l.length<=(l.flatMap Rl.tk).length:=fun l=>by
          induction l with
          |nil=>simp
          |cons x l ih=>have:=x.len;simp only[List.flatMap_cons,List.length_append,List.length_cons];omega
        have h3:=X f;have:=cd.out;omega
      clear bm fw br b9 c7 dy dz cx dg bl cr;obtain⟨R,d4⟩:∃n,n=f.length:=⟨_,rfl⟩;have ah:Hid (R=f.length):=d4;rw[<-d4]at gz ⊢;clear d4;go_wp2;go_loopw [8] (fun v8 wr=>∃i m,i<=R/\v8=.int .i64 ((i:Nat):Int)/\wr=W2.drewN m/\qG (f.take i) (f.drop i)=qG [] f) (fun v8 _=>R-(intOf v8).toNat)
      case atStart=>exact⟨0,0,Nat.zero_le _,rfl,rfl,rfl⟩
      case round =>
        obtain⟨i,m,hi,rfl,rfl,hD⟩:=hrel;have HD:Hid (qG (f.take i) (f.drop i)=qG [] f):=hD;clear hD;by_cases aq:i<R
        · have hlt':(i:Int)<R:=by omega
          obtain⟨q,O⟩:∃q,f[i]? = some q:=⟨_,List.getElem?_eq_getElem (by have:=ah.out;omega)⟩
          obtain⟨b,off,rfl,ab⟩:=dt.out.at (i:=i) (by have:=ah.out;omega)
          have en:Hid (∀j s,f[j]? = some s->RlC (New w0 W1) W2 b (off+j*6) s):=ab;have HQ:Hid (f[i]? = some q):=O;have eo:Hid ((if (f.take i).any (fun s=>xP s q) then some q.name.at_ else qG (f.take (i+1)) (f.drop (i+1)))=qG [] f):=by
            have h:=HD.out;rw[yj O,qG]at h;have e:f.take i++[q]=f.take (i+1):=by rw[List.take_add_one,O];rfl
            rw[e]at h;exact h
          clear ab O HD;go_wp2;go_loopw [9] (fun v9 wr=>∃j m,j<=i/\v9=.int .i64 ((j:Nat):Int)/\wr=W2.drewN m/\(f.take j).any (fun s=>xP s q)=false) (fun v9 _=>i-(intOf v9).toNat)
          case atStart=>exact⟨0,m,Nat.zero_le _,rfl,rfl,rfl⟩
          case round =>
            obtain⟨j,m2,hj,rfl,rfl,hA⟩:=hrel;have HA:Hid ((f.take j).any (fun s=>xP s q)=false):=hA
            clear hA
            --{
            by_cases a1:j<i
            · have hjl':(j:Int)<i:=by omega
              have ib:(j:Int)<R:=by omega
              obtain⟨s,hs⟩:∃s,f[j]? = some s:=⟨_,List.getElem?_eq_getElem (by have:=ah.out;omega)⟩
              obtain⟨V,hV⟩:∃V,W2.drewN m2=V:=⟨_,rfl⟩;have gv:Hid (∀n,∃q,V.drewN n=W2.drewN q):=fun n=>⟨m2+n,by rw[<-hV,World.drewN_drewN]⟩
              have fn:Hid (Keep (fun _=>False) W2 V):=by rw[<-hV];exact uI W2 m2
              have bk:Hid (Below W2.heap.size W2 V):=by rw[<-hV];exact below_drewN (Below.refl _ W2) m2
              rw[hV];clear hV;obtain⟨cf,bx,_⟩:=en.out i q HQ.out;obtain⟨fr,fs,_⟩:=en.out j s hs;obtain⟨qa,qc,q2,bj⟩:=bx.nm;obtain⟨sa,sc,s2,f9⟩:=fs.nm;have k0:=uc cf bk.out;have k1:=uc q2 bk.out;have k2:=uc bx.at_ bk.out;have k3:=uc fr bk.out;have k4:=uc s2 bk.out;have HY:∀n,(convert 22 9 (.slice qa q.name.nm.length qc)).run Tryz.prog (V.drewN n)=.ok (.string (str q.name.nm.length (lf q.name.nm))) (V.drewN n):=fun n=>vD _ qa q.name.nm.length qc (lf q.name.nm) _ ((bj.later bk.out).later (below_drewN (Below.refl _ V) n))
              have HZ:∀n,(convert 22 9 (.slice sa s.name.nm.length sc)).run Tryz.prog (V.drewN n)=.ok (.string (str s.name.nm.length (lf s.name.nm))) (V.drewN n):=fun n=>vD _ sa s.name.nm.length sc (lf s.name.nm) _ ((f9.later bk.out).later (below_drewN (Below.refl _ V) n))
              have af:Hid (str q.name.nm.length (lf q.name.nm)=str s.name.nm.length (lf s.name.nm)↔q.name.nm=s.name.nm):=ueQ (bf.out q (List.mem_of_getElem? HQ.out)).1.byt (bf.out s (List.mem_of_getElem? hs)).1.byt;have cb:Hid (xP s q=(s.car.isSome==q.car.isSome&&decide (s.name.nm=q.name.nm))):=rfl;have ap:Hid (xP s q=false->(f.take (j+1)).any (fun s=>xP s q)=false):=fun h=>by
                rw[List.take_add_one,hs];simp only[Option.toList_some,List.any_append,HA.out,Bool.false_or,List.any_cons,List.any_nil,Bool.or_false];exact h
              have cp:Hid (xP s q=true->qG [] f=some q.name.at_):=fun h=>by
                have X:=eo.out;rw[if_pos (List.any_eq_true.2 ⟨s,List.mem_of_getElem? (i:=j) (by rw[List.getElem?_take_of_lt a1];exact hs),h⟩)]at X
                exact X.symm
              generalize hf:str q.name.nm.length (lf q.name.nm)=sy at *;generalize cm:str s.name.nm.length (lf s.name.nm)=sz at *;clear hf cm cf bx fr fs q2 bj s2 f9 hs HA;generalize g6:q.car.isSome=bq at *;generalize g7:s.car.isSome=bs at *;clear g6 g7;by_cases a4:xP s q=true
              · have HF:Hid (qG [] f=some q.name.at_):=cp.out a4
                have a2:=cb.out;rw[a4]at a2;simp only[Bool.true_eq,Bool.and_eq_true,beq_iff_eq,decide_eq_true_eq]at a2;obtain⟨e1,e2⟩:=a2;subst e1;obtain rfl:sy=sz:=af.out.2 e2.symm;have E:=fn.out.block w.heap.size (Array.getElem?_eq_some_iff.1 ca.out).1 (fun q=>q)
                rw[ca.out]at E;have c0:V.cell? ⟨w.heap.size,0,none⟩=some (.slice none 0 0):=ui E rfl;have c1:V.cell? ⟨w.heap.size,1,none⟩=some (.slice none 0 0):=ui E rfl;have f0:V.frozen? ⟨w.heap.size,0,none⟩=false:=ur E;have f1:V.frozen? ⟨w.heap.size,1,none⟩=false:=ur E;have am:Hid (∀V',Keep (fun _=>False) V V'->xi t w (.returned (.tuple #[.agg #[.slice none 0 0,.slice none 0 0],.int .i64 6,.int .i64 (q.name.at_:Int)])) ((V'.setCell ⟨w.heap.size,0,none⟩ (.slice none 0 0)).setCell ⟨w.heap.size,1,none⟩ (.slice none 0 0))):=fun V' k =>
                  kM (b8.out _ _ _ (by unfold xp;rw[HF.out];exact⟨rfl,rfl,rfl⟩)) (vw (vw ((dl.out.trans fn.out).trans k) (Nat.le_refl _)) (Nat.le_refl _))
                clear e2 E a4 af cb ap cp HF;cases bs
                all_goals (
                  go_upto_region 14 with fail
                  go_quiet (fail);go_upto_region 15 with fail
                  go_region;go_wp2;refine bodyPost_ret (v:=.tuple #[.agg #[.slice none 0 0,.slice none 0 0],.int .i64 6,.int .i64 (q.name.at_:Int)]) ?_ rfl ?_
                  · simp[results,Tryz.f5,go_sem, *]
                  · exact am.out _ (uI V _))
              · have a4:xP s q=false:=by simpa using a4
                have ai:Hid ((f.take (j+1)).any (fun s=>xP s q)=false):=ap.out a4
                have a2:=cb.out;rw[a4]at a2;have fg:Hid (∀n,∃m,V.drewN n=W2.drewN m):=gv.out;by_cases ea:bs=bq
                · subst ea
                  simp only[BEq.rfl,Bool.true_and,Bool.false_eq,decide_eq_false_iff_not]at a2;have hs:¬sy=sz:=fun q=>a2 (af.out.1 q).symm
                  have hs':(sy.toList==sz.toList)=false:=by
                    rw[beq_eq_false_iff_ne];exact fun q=>hs (umd q)
                  clear a2 a4 af cb ap cp;cases bs
                  all_goals (
                    go_upto_region 14 with fail
                    go_quiet (fail);go_wp2;obtain⟨m3,ed⟩:=fg.out nq;exact⟨⟨j+1,m3,a1,by simp,ed,ai.out⟩,by simp[intOf];omega⟩)
                · clear a2 a4 af cb ap cp
                  cases bs<;>cases bq
                  all_goals first
                    |exact absurd rfl ea
                    | (clear ea
                       go_upto_region 14 with fail
                       go_quiet (fail);go_wp2;obtain⟨m3,ed⟩:=fg.out nq;exact⟨⟨j+1,m3,a1,by simp,ed,ai.out⟩,by simp[intOf];omega⟩)
            · have hjl':¬(j:Int)<i:=by omega
              obtain rfl:j=i:=by omega
              have gc:Hid (qG (f.take (j+1)) (f.drop (j+1))=qG [] f):=by
                have h:=eo.out;rw[if_neg (by rw[HA.out];decide)]at h
                exact h
              go_wp2;go_roundw
              case rel=>exact⟨j+1,m2,aq,by go_num,rfl,gc.out⟩
              case measure=>simp[intOf];omega
            --}
        · have hlt':¬(i:Int)<R:=by omega
          have b6:Hid (qG [] f=none):=by
            have h:=HD.out;rw[List.drop_of_length_le (by have:=ah.out;omega),qG]at h
            exact h.symm
          obtain⟨A,d8⟩:∃V,W2.drewN m=V:=⟨_,rfl⟩;have a8:Hid (Keep (fun _=>False) W2 A):=by rw[<-d8];exact uI W2 m
          rw[d8];clear d8;have ev:Hid (Keep (fun _=>False) w A):=dl.out.trans a8.out
          have ds:Hid (A.heap[w.heap.size]? = some (.cells #[.slice none 0 0,.slice none 0 0] 28)):=(a8.out.block w.heap.size (Array.getElem?_eq_some_iff.1 ca.out).1 (fun q=>q)).trans ca.out
          have du:Hid (RlsA (New w0 W1) A ra f):=dt.out.later a8.out.bel;clear dl ca dt a8 HD;go_wp2;go_loopw [10,11] (fun v u wr=>∃(i:Nat) (L:List NC),i<=R/\u=.int .i64 ((i:Nat):Int)/\L.length<=i/\L.map (·.z)=uj (f.take i)/\NmR A wr v L) (fun _ u _=>R-(intOf u).toNat)
          case atStart=>exact⟨0,[],Nat.zero_le _,rfl,Nat.le_refl _,rfl,NmR.nil (Keep.refl _ _)⟩
          case round =>
            obtain⟨i,L,hi,rfl,gy,hL,hR⟩:=hrel;obtain⟨va,vc,rfl⟩:=hR.shape;have HL:Hid (L.map (·.z)=uj (f.take i)):=hL
            have HR:Hid (NmR A wr (.slice va L.length vc) L):=hR;clear hL hR;by_cases aq:i<R
            ·
              --{
              have hlt':(i:Int)<R:=by omega
              obtain⟨q,O⟩:∃q,f[i]? = some q:=⟨_,List.getElem?_eq_getElem (by have:=ah.out;omega)⟩
              obtain⟨b,off,rfl,ab⟩:=du.out.at (i:=i) (by have:=ah.out;omega)
              obtain⟨cf,bx,_⟩:=ab i q O;obtain⟨qa,qc,q2,bj⟩:=bx.nm;have HI:Hid (Ints (New w0 W1) .u8 A qa q.name.nm.length (lf q.name.nm)):=bj;have kb:=HR.out.keep.bel;have k0:=uc cf kb;have k1:=uc q2 kb;have ap:Hid (uj (f.take (i+1))=uj (f.take i)++(if q.car.isSome then [] else [q.name.nm])):=by
                show _=_;rw[List.take_add_one,O];unfold uj;rw[List.filter_append,List.map_append];cases hc:q.car<;>simp[hc]
              clear ab cf bx q2 bj kb O;cases ax:q.car with
              |none =>
                rw[ax]at k0;simp only[Option.isSome_none]at k0;have ai:Hid ((L++[(⟨q.name.nm,qa,qc⟩:NC)]).map (·.z)=uj (f.take (i+1))):=by
                  have:=ap.out;rw[ax]at this;rw[this,List.map_append,HL.out];rfl
                clear ap;go_wp2_with (at_builtin;refine nmA rfl _ _ rfl rfl rfl (y:=⟨q.name.nm,qa,qc⟩) HR.out (Keep.refl _ _) HI.out (by omega) ?_;intro a5 c5 W5 bt)
                go_roundw
                case rel=>exact⟨i+1,_,aq,by go_num,by simp;omega,ai.out,bt.out⟩
                case measure=>simp[intOf];omega
              |some cc =>
                rw[ax]at k0;simp only[Option.isSome_some]at k0;have ai:Hid (L.map (·.z)=uj (f.take (i+1))):=by
                  have:=ap.out;rw[ax]at this;exact HL.out.trans (by rw[this];simp)
                clear ap;go_wp2;go_roundw
                case rel=>exact⟨i+1,L,aq,by go_num,by omega,ai.out,HR.out⟩
                case measure=>simp[intOf];omega
              --}
            · have hlt':¬(i:Int)<R:=by omega
              have dq:Hid (L.map (·.z)=uj f):=by
                have:=HL.out;rw[List.take_of_length_le (by have:=ah.out;omega)]at this
                exact this
              rename World=>W4
              have ct:Hid (Keep (fun _=>False) w W4):=ev.out.trans HR.out.keep
              have a0:Hid (W4.heap[w.heap.size]? = some (.cells #[.slice none 0 0,.slice none 0 0] 28)):=(HR.out.keep.block w.heap.size (Array.getElem?_eq_some_iff.1 ds.out).1 (fun q=>q)).trans ds.out
              have dv:Hid (RlsA (New w0 W1) W4 ra f):=du.out.later HR.out.keep.bel;have cy:Hid (NmsA (fun b=>b<W4.heap.size) W4 va (uj f)):=by
                have:=HR.out.read;rw[dq.out]at this;exact this
              have dn:Hid (∀y∈uj f,BytL y):=fun y hy=>by
                unfold uj at hy;obtain⟨q,O,rfl⟩:=List.mem_map.1 hy;exact (bf.out q (List.mem_filter.1 O).1).1.byt
              obtain⟨NN,d3⟩:∃n,n=L.length:=⟨_,rfl⟩;have a9:Hid (NN=(uj f).length):=by
                show NN=_;rw[d3,<-dq.out,List.length_map]
              have h9:NN<=8000:=by omega
              rw[<-d3];clear d3 ev ds du HR HL dq gy;go_wp2;go_loopw [12] (fun u wr=>∃i:Nat,i<=R/\u=.int .i64 ((i:Nat):Int)/\Keep (fun _=>False) W4 wr/\vx (uj f) (f.drop i)=vx (uj f) f) (fun u _=>R-(intOf u).toNat)
              case atStart=>exact⟨0,Nat.zero_le _,rfl,Keep.refl _ _,rfl⟩
              case round =>
                obtain⟨i,hi,rfl,hK,hF⟩:=hrel;have HK:Hid (Keep (fun _=>False) W4 wr):=hK
                have HF:Hid (vx (uj f) (f.drop i)=vx (uj f) f):=hF;clear hK hF;by_cases aq:i<R
                ·
                  --{
                  have hlt':(i:Int)<R:=by omega
                  obtain⟨q,O⟩:∃q,f[i]? = some q:=⟨_,List.getElem?_eq_getElem (by have:=ah.out;omega)⟩
                  obtain⟨b,off,rfl,ab⟩:=dv.out.at (i:=i) (by have:=ah.out;omega)
                  obtain⟨_,_,ba,bc,c5,fx,_⟩:=ab i q O;have gu:Hid (TksA (New w0 W1) W4 ba q.body.tk):=fx;have em:Hid (W4.cell? ⟨b,off+i*6+5,none⟩=some (.slice ba q.body.tk.length bc)):=c5;have es:Hid (orR (qT (uj f) (jO q.body.tk 0) (q.body.tk.drop 0)) (vx (uj f) (f.drop (i+1)))=vx (uj f) f):=by
                    have h:=HF.out;rw[yj O,uio]at h;exact h
                  have bl:Hid (∀x∈q.body.tk,TokF t.n x):=(bf.out q (List.mem_of_getElem? O)).2;obtain⟨NB,d2⟩:∃n,n=q.body.tk.length:=⟨_,rfl⟩;have cw:Hid (NB=q.body.tk.length):=d2;have h8:NB<=8000:=by
                    have Z:=ubv (f.flatMap Rl.tk);have X:q.tk.length<=(f.flatMap Rl.tk).length:=by
                      obtain⟨l1,l2,rfl⟩:=List.append_of_mem (List.mem_of_getElem? O);simp;omega
                    have h3:=q.len;have h4:=cd.out;omega
                  rw[<-d2]at em;clear ab c5 fx O HF d2;go_wp2;go_loopw [13] (fun u wr=>∃j:Nat,j<=NB/\u=.int .i64 ((j:Nat):Int)/\Keep (fun _=>False) W4 wr/\orR (qT (uj f) (jO q.body.tk j) (q.body.tk.drop j)) (vx (uj f) (f.drop (i+1)))=vx (uj f) f) (fun u _=>NB-(intOf u).toNat)
                  case atStart=>exact⟨0,Nat.zero_le _,rfl,HK.out,es.out⟩
                  case round =>
                    obtain⟨j,hj,rfl,bm,ft⟩:=hrel;have ay:Hid (Keep (fun _=>False) W4 wr):=bm
                    have dh:Hid (orR (qT (uj f) (jO q.body.tk j) (q.body.tk.drop j)) (vx (uj f) (f.drop (i+1)))=vx (uj f) f):=ft;have d5:=uc em.out bm.bel;clear bm ft es HK;by_cases a1:j<NB
                    · have hjl':(j:Int)<NB:=by omega
                      obtain⟨x,hx⟩:∃x,q.body.tk[j]? = some x:=⟨_,List.getElem?_eq_getElem (by have:=cw.out;omega)⟩
                      obtain⟨bb,bo,rfl,ab⟩:=gu.out.at (i:=j) (by have:=cw.out;omega)
                      have hC:=ab j x hx;obtain⟨xa,xc,x2,gb⟩:=hC.nm;obtain⟨ya,yc,x3,_⟩:=hC.set;have fp:Hid (Ints (New w0 W1) .u8 W4 xa x.nm.length (lf x.nm)):=gb;have fo:Hid (BytL x.nm):=(bl.out x (List.mem_of_getElem? hx)).byt;have e0:=uc hC.kind ay.out.bel;have e1:=uc hC.at_ ay.out.bel;have e2:=uc x2 ay.out.bel;have e3:=uc x3 ay.out.bel;have dx:=dh.out;rw[ukI hx]at dx;have gn:Hid (∀p y,j=p+1->q.body.tk[p]? = some y->wr.cell? ⟨bb,bo+p*4,none⟩=some (.int .u8 y.kind)):=fun p y _ hy=>uc (ab p y hy).kind ay.out.bel
                      have fj:Hid (orR (if x.kind=110/\jO q.body.tk j=false/\x.nm ∉ uj f then some x.at_ else qT (uj f) (jO q.body.tk (j+1)) (q.body.tk.drop (j+1))) (vx (uj f) (f.drop (i+1)))=vx (uj f) f):=dx
                      have af:Hid ((if x.kind=110/\jO q.body.tk j=false/\x.nm ∉ uj f then some x.at_ else orR (qT (uj f) (jO q.body.tk (j+1)) (q.body.tk.drop (j+1))) (vx (uj f) (f.drop (i+1))))=vx (uj f) f):=by
                        have h:=fj.out;show _=_;rw[<-h];split<;>rfl
                      have iy:b<wr.heap.size:=ub d5;have i0:bb<wr.heap.size:=ub e0;clear ab hC x2 gb x3 dx fj dh;obtain⟨V,hV⟩:∃V,V=wr.alloc (.cells #[.int .u8 x.kind,.int .i64 x.at_,.slice xa x.nm.length xc,.slice ya x.set.length yc] 65):=⟨_,rfl⟩;have bg:Hid (V.heap[wr.heap.size]? = some (.cells #[.int .u8 x.kind,.int .i64 x.at_,.slice xa x.nm.length xc,.slice ya x.set.length yc] 65)):=by rw[hV];exact yE wr _ _ rfl
                      have az:Hid (Keep (fun _=>False) W4 V):=by rw[hV];exact ay.out.trans (Keep.alloc _ _ _)
                      have co:Hid (Below W4.heap.size W4 V):=az.out.bel;have bu:Hid (V=wr.alloc (.cells #[.int .u8 x.kind,.int .i64 x.at_,.slice xa x.nm.length xc,.slice ya x.set.length yc] 65)):=hV;clear hV;by_cases bi:x.kind=110
                      · have eu:Hid (x.kind=110):=bi
                        by_cases ck:j=0
                        · have dr:Hid (jO q.body.tk j=false):=by rw[ck];rfl
                          have g8:((j:Int)==0)=true:=by simp[ck]
                          rw[bi]at e0 bg bu;clear ck bi;go_upto_region 30 with fail
                          rw[<-bu.out];have ef:¬wr.heap.size=w.heap.size:=by have Z:w.heap.size<W4.heap.size:=(Array.getElem?_eq_some_iff.1 a0.out).1;have X:=ay.out.size;omega
                          have he:¬w.heap.size=wr.heap.size:=fun q=>ef q.symm
                          have v2:V.cell? ⟨wr.heap.size,2,none⟩=some (.slice xa x.nm.length xc):=ui bg.out rfl;have al:Hid (Calls Tryz.prog 26 #[.slice va NN vc,.slice xa x.nm.length xc] V fun e w'=>e=.returned (.int .i64 (xh x.nm (uj f) 0))/\∃m,w'=V.drewN m):=by
                            have h:=kL (fun b=>b<W4.heap.size) (New w0 W1) (uj f) x.nm va xa vc xc V (cy.out.later co.out) (fp.out.later co.out) dn.out fo.out (by have:=a9.out;omega)
                            rw[<-a9.out]at h;exact h
                          by_cases ac:x.nm∈uj f
                          · obtain⟨k,_,hk⟩:=(jN x.nm (uj f) 0).1 ac
                            rw[hk]at al;have ai:Hid (orR (qT (uj f) (jO q.body.tk (j+1)) (q.body.tk.drop (j+1))) (vx (uj f) (f.drop (i+1)))=vx (uj f) f):=by
                              have h:=af.out;rw[if_neg (fun q=>q.2.2 ac)]at h
                              exact h
                            have g9:decide (((0+k:Nat):Int)<0)=false:=decide_eq_false (by omega)
                            have b2:¬((0+k:Nat):Int)<0:=by omega
                            clear ac hk af;generalize ec:0+k=k0 at *;clear ec;go_wp2_with fail;refine al.out.mono ?_;rintro e W ⟨rfl,m,rfl⟩;have an:Hid (Keep (fun _=>False) W4 (V.drewN m)):=az.out.trans (uI V m)
                            go_wp2;go_roundw
                            case rel=>exact⟨j+1,a1,by go_num,an.out,ai.out⟩
                            case measure=>simp[intOf];omega
                          · rw[(jN x.nm (uj f) 0).2 ac]at al
                            have HF:Hid (vx (uj f) f=some x.at_):=by
                              have h:=af.out;rw[if_pos ⟨eu.out,dr.out,ac⟩]at h;exact h.symm
                            clear ac af;go_wp2_with fail;refine al.out.mono ?_;rintro e W ⟨rfl,m,rfl⟩;obtain⟨Y,bn⟩:∃Y,V.drewN m=Y:=⟨_,rfl⟩;have an:Hid (Keep (fun _=>False) V Y):=by rw[<-bn];exact uI V m
                            rw[bn];clear bn;have cT:=an.out.block wr.heap.size (Array.getElem?_eq_some_iff.1 bg.out).1 (fun q=>q)
                            rw[bg.out]at cT;have t1:Y.cell? ⟨wr.heap.size,1,none⟩=some (.int .i64 x.at_):=ui cT rfl;have E:=(az.out.trans an.out).block w.heap.size (Array.getElem?_eq_some_iff.1 a0.out).1 (fun q=>q)
                            rw[a0.out]at E;have c0:Y.cell? ⟨w.heap.size,0,none⟩=some (.slice none 0 0):=ui E rfl;have c1:Y.cell? ⟨w.heap.size,1,none⟩=some (.slice none 0 0):=ui E rfl;have f0:Y.frozen? ⟨w.heap.size,0,none⟩=false:=ur E;have f1:Y.frozen? ⟨w.heap.size,1,none⟩=false:=ur E;have am:Hid (∀V',Keep (fun _=>False) Y V'->xi t w (.returned (.tuple #[.agg #[.slice none 0 0,.slice none 0 0],.int .i64 6,.int .i64 (x.at_:Int)])) ((V'.setCell ⟨w.heap.size,0,none⟩ (.slice none 0 0)).setCell ⟨w.heap.size,1,none⟩ (.slice none 0 0))):=fun V' k =>
                              kM (b8.out _ _ _ (by unfold xp;rw[b6.out,HF.out];exact⟨rfl,rfl,rfl⟩)) (vw (vw (((ct.out.trans az.out).trans an.out).trans k) (Nat.le_refl _)) (Nat.le_refl _))
                            clear cT E HF;go_upto_region 31 with fail
                            go_region;all_goals (
                              go_wp2;refine bodyPost_ret (v:=.tuple #[.agg #[.slice none 0 0,.slice none 0 0],.int .i64 6,.int .i64 (x.at_:Int)]) ?_ rfl ?_
                              · simp[results,Tryz.f5,go_sem, *]
                              · exact am.out _ (uI Y 1))
                        · obtain⟨p,hp⟩:∃p,j=p+1:=⟨j-1,by omega⟩
                          obtain⟨y,hy⟩:∃y,q.body.tk[p]? = some y:=⟨_,List.getElem?_eq_getElem (by have:=cw.out;omega)⟩
                          have ey:=gn.out p y hp hy;have iz:j<NB:=a1;have g8:((j:Int)==0)=false:=by simp;omega
                          have id:(j:Int)-1=(p:Int):=by omega
                          have ip:(p:Int)<NB:=by omega
                          have fa:Hid (jO q.body.tk j=(y.kind==94)):=by
                            show _=_;unfold jO;rw[if_neg ck,hp,Nat.add_sub_cancel,ji hy]
                          rw[bi]at e0 bg bu;clear ck bi hp hy;by_cases b4:y.kind=94
                          · have ai:Hid (orR (qT (uj f) (jO q.body.tk (j+1)) (q.body.tk.drop (j+1))) (vx (uj f) (f.drop (i+1)))=vx (uj f) f):=by
                              have h:=af.out;rw[if_neg (fun q=>by have:=q.2.1;rw[fa.out,b4]at this;exact absurd this (by decide))]at h
                              exact h
                            rw[b4]at ey;clear b4;go_upto_region 30 with fail
                            rw[<-bu.out];go_wp2;go_roundw
                            case rel=>exact⟨j+1,a1,by go_num,az.out,ai.out⟩
                            case measure=>simp[intOf];omega
                          · have dr:Hid (jO q.body.tk j=false):=by
                              show _=_;rw[fa.out];simpa using b4
                            have hy94':(y.kind != 94)=true:=by simpa using b4
                            clear b4;go_upto_region 30 with fail
                            rw[<-bu.out];have ef:¬wr.heap.size=w.heap.size:=by have Z:w.heap.size<W4.heap.size:=(Array.getElem?_eq_some_iff.1 a0.out).1;have X:=ay.out.size;omega
                            have he:¬w.heap.size=wr.heap.size:=fun q=>ef q.symm
                            have v2:V.cell? ⟨wr.heap.size,2,none⟩=some (.slice xa x.nm.length xc):=ui bg.out rfl;have al:Hid (Calls Tryz.prog 26 #[.slice va NN vc,.slice xa x.nm.length xc] V fun e w'=>e=.returned (.int .i64 (xh x.nm (uj f) 0))/\∃m,w'=V.drewN m):=by
                              have h:=kL (fun b=>b<W4.heap.size) (New w0 W1) (uj f) x.nm va xa vc xc V (cy.out.later co.out) (fp.out.later co.out) dn.out fo.out (by have:=a9.out;omega)
                              rw[<-a9.out]at h;exact h
                            by_cases ac:x.nm∈uj f
                            · obtain⟨k,_,hk⟩:=(jN x.nm (uj f) 0).1 ac
                              rw[hk]at al;have ai:Hid (orR (qT (uj f) (jO q.body.tk (j+1)) (q.body.tk.drop (j+1))) (vx (uj f) (f.drop (i+1)))=vx (uj f) f):=by
                                have h:=af.out;rw[if_neg (fun q=>q.2.2 ac)]at h
                                exact h
                              have g9:decide (((0+k:Nat):Int)<0)=false:=decide_eq_false (by omega)
                              have b2:¬((0+k:Nat):Int)<0:=by omega
                              clear ac hk af;generalize ec:0+k=k0 at *;clear ec;go_wp2_with fail;refine al.out.mono ?_;rintro e W ⟨rfl,m,rfl⟩;have an:Hid (Keep (fun _=>False) W4 (V.drewN m)):=az.out.trans (uI V m)
                              go_wp2;go_roundw
                              case rel=>exact⟨j+1,a1,by go_num,an.out,ai.out⟩
                              case measure=>simp[intOf];omega
                            · rw[(jN x.nm (uj f) 0).2 ac]at al
                              have HF:Hid (vx (uj f) f=some x.at_):=by
                                have h:=af.out;rw[if_pos ⟨eu.out,dr.out,ac⟩]at h;exact h.symm
                              clear ac af;go_wp2_with fail;refine al.out.mono ?_;rintro e W ⟨rfl,m,rfl⟩;obtain⟨Y,bn⟩:∃Y,V.drewN m=Y:=⟨_,rfl⟩;have an:Hid (Keep (fun _=>False) V Y):=by rw[<-bn];exact uI V m
                              rw[bn];clear bn;have cT:=an.out.block wr.heap.size (Array.getElem?_eq_some_iff.1 bg.out).1 (fun q=>q)
                              rw[bg.out]at cT;have t1:Y.cell? ⟨wr.heap.size,1,none⟩=some (.int .i64 x.at_):=ui cT rfl;have E:=(az.out.trans an.out).block w.heap.size (Array.getElem?_eq_some_iff.1 a0.out).1 (fun q=>q)
                              rw[a0.out]at E;have c0:Y.cell? ⟨w.heap.size,0,none⟩=some (.slice none 0 0):=ui E rfl;have c1:Y.cell? ⟨w.heap.size,1,none⟩=some (.slice none 0 0):=ui E rfl;have f0:Y.frozen? ⟨w.heap.size,0,none⟩=false:=ur E;have f1:Y.frozen? ⟨w.heap.size,1,none⟩=false:=ur E;have am:Hid (∀V',Keep (fun _=>False) Y V'->xi t w (.returned (.tuple #[.agg #[.slice none 0 0,.slice none 0 0],.int .i64 6,.int .i64 (x.at_:Int)])) ((V'.setCell ⟨w.heap.size,0,none⟩ (.slice none 0 0)).setCell ⟨w.heap.size,1,none⟩ (.slice none 0 0))):=fun V' k =>
                                kM (b8.out _ _ _ (by unfold xp;rw[b6.out,HF.out];exact⟨rfl,rfl,rfl⟩)) (vw (vw (((ct.out.trans az.out).trans an.out).trans k) (Nat.le_refl _)) (Nat.le_refl _))
                              clear cT E HF;go_upto_region 31 with fail
                              go_region;all_goals (
                                go_wp2;refine bodyPost_ret (v:=.tuple #[.agg #[.slice none 0 0,.slice none 0 0],.int .i64 6,.int .i64 (x.at_:Int)]) ?_ rfl ?_
                                · simp[results,Tryz.f5,go_sem, *]
                                · exact am.out _ (uI Y 1))
                      · have ai:Hid (orR (qT (uj f) (jO q.body.tk (j+1)) (q.body.tk.drop (j+1))) (vx (uj f) (f.drop (i+1)))=vx (uj f) f):=by
                          have h:=af.out;rw[if_neg (fun q=>bi q.1)]at h
                          exact h
                        have hk':(x.kind==110)=false:=by simpa using bi
                        clear bi;go_upto_region 30 with fail
                        rw[<-bu.out];go_wp2;go_roundw
                        case rel=>exact⟨j+1,a1,by go_num,az.out,ai.out⟩
                        case measure=>simp[intOf];omega
                    · have hjl':¬(j:Int)<NB:=by omega
                      have gd:Hid (vx (uj f) (f.drop (i+1))=vx (uj f) f):=by
                        have h:=dh.out;rw[List.drop_of_length_le (by have:=cw.out;omega),qT]at h
                        exact h
                      go_wp2;go_roundw
                      case rel=>exact⟨i+1,aq,by go_num,ay.out,gd.out⟩
                      case measure=>simp[intOf];omega
                  --}
                · have hlt':¬(i:Int)<R:=by omega
                  have ff:Hid (vx (uj f) f=none):=by
                    have h:=HF.out;rw[List.drop_of_length_le (by have:=ah.out;omega),vx]at h
                    exact h.symm
                  rename World=>W5
                  have dm:Hid (Keep (fun _=>False) w W5):=ct.out.trans HK.out
                  have bt:Hid (W5.heap[w.heap.size]? = some (.cells #[.slice none 0 0,.slice none 0 0] 28)):=(HK.out.block w.heap.size (Array.getElem?_eq_some_iff.1 a0.out).1 (fun q=>q)).trans a0.out
                  have dw:Hid (RlsA (New w0 W1) W5 ra f):=dv.out.later HK.out.bel;have e9:Hid (NmsA (fun _=>True) W5 va (uj f)):=(cy.out.later HK.out.bel).wide (fun _ _=>trivial)
                  clear ct a0 dv cy HK HF;by_cases c8:NN=0
                  · have HE:Hid (uj f = []):=List.eq_nil_of_length_eq_zero (by rw[<-a9.out];exact c8)
                    have am:Hid (xi t w (.returned (.tuple #[.agg #[.slice none 0 0,.slice none 0 0],.int .i64 6,.int .i64 (t.n:Int)])) ((W5.setCell ⟨w.heap.size,0,none⟩ (.slice none 0 0)).setCell ⟨w.heap.size,1,none⟩ (.slice none 0 0))) :=
                      kM (b8.out _ _ _ (by unfold xp;rw[b6.out,ff.out,HE.out];exact⟨rfl,rfl,rfl⟩)) (vw (vw dm.out (Nat.le_refl _)) (Nat.le_refl _))
                    subst c8;have E:=bt.out;have c0:W5.cell? ⟨w.heap.size,0,none⟩=some (.slice none 0 0):=ui E rfl;have c1:W5.cell? ⟨w.heap.size,1,none⟩=some (.slice none 0 0):=ui E rfl;have f0:W5.frozen? ⟨w.heap.size,0,none⟩=false:=ur E;have f1:W5.frozen? ⟨w.heap.size,1,none⟩=false:=ur E;clear E;go_wp2;refine bodyPost_ret (v:=.tuple #[.agg #[.slice none 0 0,.slice none 0 0],.int .i64 6,.int .i64 (t.n:Int)]) ?_ rfl ?_
                    · simp[results,Tryz.f5,go_sem, *]
                    · exact am.out
                  · have h7:((NN:Int)==0)=false:=by simp;omega
                    have gk:Hid (¬uj f = []):=fun q=>c8 (by rw[a9.out,q];rfl)
                    have fk:Hid ((f.flatMap Rl.tk).length<=8000):=by have Z:=ubv (f.flatMap Rl.tk);have X:=cd.out;show _<=_;omega
                    have cu:Hid (∀z∈uy f,BytL z/\z.length<=1000000):=fun z hz=>by
                      unfold uy at hz;obtain⟨q,O,hz⟩:=List.mem_flatMap.1 hz;have bh:=bf.out q O;have ga:∀x:Tok,TokF t.n x->BytL x.nm/\x.nm.length<=1000000:=fun x h=>⟨h.byt,by have:=h.len;omega⟩
                      unfold xA at hz;rcases List.mem_append.1 hz with h | h
                      · split at h
                        · rw[List.mem_singleton.1 h];exact ga _ bh.1
                        · cases h
                      · obtain⟨x,hx,rfl⟩:=udx h
                        exact ga _ (bh.2 x hx)
                    clear c8;go_wp2_with fail;have d1:=ufK (New w0 W1) f ra rc W5 dw.out (by have:=fk.out;omega) (fun z hz=>(cu.out z hz).1) (fun z hz=>(cu.out z hz).2)
                    rw[<-ah.out]at d1;refine d1.mono ?_;clear d1;rintro e o ⟨la,lc,C,rfl,d0,ac,b0,ch⟩;have ej:Hid (Asc C):=d0;have cv:Hid (∀z,z∈C↔z∈uy f):=ac;have dp:Hid (NmsA (fun b=>b<o.heap.size) o la C):=b0
                    have ew:Hid (Keep (fun _=>False) w o):=dm.out.trans ch
                    have fd:Hid (o.heap[w.heap.size]? = some (.cells #[.slice none 0 0,.slice none 0 0] 28)):=(ch.block w.heap.size (Array.getElem?_eq_some_iff.1 bt.out).1 (fun q=>q)).trans bt.out
                    have gs:Hid (RlsA (New w0 W1) o ra f):=dw.out.later ch.bel;have gl:Hid (NmsA (fun _=>True) o va (uj f)):=e9.out.later ch.bel
                    have ez:Hid (∀y∈C,BytL y):=fun y hy=>(cu.out y ((ac y).1 hy)).1
                    have hd:C.length<=8000:=by
                      have Z:=d0.len (m:=uy f) (fun z hz=>(ac z).1 hz)
                      have X:=qR f;have h3:=fk.out;omega
                    obtain⟨NS,d6⟩:∃n,n=C.length:=⟨_,rfl⟩;have ao:Hid (NS=C.length):=d6;rw[<-d6]at hd ⊢;clear d0 ac b0 ch dm bt dw e9 d6;go_wp2;obtain⟨W7,ci⟩:∃W7,W7=o.alloc (.cells #[.slice none 0 0,.slice none 0 0] 28):=⟨_,rfl⟩;have b7:Hid (Keep (fun _=>False) o W7):=by rw[ci];exact Keep.alloc _ _ _
                    have be:Hid (W7.heap.size=o.heap.size+1):=by rw[ci];show _=_;simp
                    obtain⟨wE,f7⟩:∃wE:World,wE.heap.size=0:=⟨{ w with heap:=#[] },rfl⟩
                    have et:Hid (∃G,GVo o.heap.size wE G W7 (.slice none 0 0) (.slice none 0 0) [] []):=by rw[ci];exact⟨_,GVo.start o wE f7⟩
                    rw[<-ci];clear ci f7;go_loopw [18] (umq NS o.heap.size wE W7 C) (fun u _=>NS-(intOf u).toNat)
                    case atStart =>
                      obtain⟨G,hG⟩:=et.out;exact⟨0,G,_,[],Nat.zero_le _,rfl,hG,rfl,Keep.refl _ _⟩
                    case round =>
                      obtain⟨i,G,lv,cs,hi,rfl,hG,bp,hK⟩:=hrel;have HG:Hid (GVo o.heap.size wE G wr (.slice none 0 0) lv [] cs):=hG;have av:Hid (cs.map (·.d)=(C.take i).map (fun z=>(⟨z,false,[]⟩:NL))):=bp
                      have ag:Hid (Keep (fun b=>b=o.heap.size) W7 wr):=hK
                      have cj:cs.length=i:=by
                        have h:=congrArg List.length bp;have:=ao.out;rw[List.length_map,List.length_map,List.length_take]at h;omega
                      obtain⟨aa,ad,rfl⟩:=ul hG.v.gr.labs;have b5:Hid (cs.length=i):=cj;have z1:=hG.v.c1;have f1:=hG.v.f1;have hv:o.heap.size<wr.heap.size:=ub z1;clear hG bp hK cj et;by_cases aq:i<NS
                      ·
                        --{
                        have hlt':(i:Int)<NS:=by omega
                        obtain⟨z,hz⟩:∃z,C[i]? = some z:=⟨_,List.getElem?_eq_getElem (by have:=ao.out;omega)⟩
                        obtain⟨lb,lo,rfl,ab⟩:=dp.out.at (i:=i) (by have:=ao.out;omega)
                        obtain⟨za,zc,c0,hI⟩:=ab i z hz;have ha:lb<o.heap.size:=ub c0;have c0':wr.cell? ⟨lb,lo+i,none⟩=some (.slice za z.length zc):=by
                          rw[ag.out.cell (p:=⟨lb,lo+i,none⟩) (by have:=be.out;show lb<_;omega) (by show ¬lb=_;omega)]
                          exact (b7.out.cell (p:=⟨lb,lo+i,none⟩) ha (fun q=>q)).trans c0
                        have iv:lb<wr.heap.size:=ub c0';have ig:¬lb=o.heap.size:=by omega
                        have HI:Hid (Ints (Tg G wr 2) .u8 wr za z.length (lf z)):=by
                          have Z:=hI.later b7.out.bel;have X:Stay (fun b=>b<o.heap.size) W7 wr:=fun b H=>ag.out.block b (by have:=be.out;omega) (by omega)
                          exact (Z.on X).wide (fun b H=>⟨by have:=ag.out.size;have:=be.out;omega,HG.out.old b H⟩)
                        have ap:Hid (∀y:GC,y.d=⟨z,false,[]⟩->(cs++[y]).map (·.d)=(C.take (i+1)).map (fun z=>(⟨z,false,[]⟩:NL))):=fun y hy=>by
                          rw[List.map_append,av.out,List.take_add_one,hz,List.map_append];simp[hy]
                        clear ab c0 hI hz av;have cq:Hid (GVo o.heap.size wE (ja G wr 3) (wr.drew.alloc (.cells #[.slice za z.length zc,.bool false,.slice none 0 0] 73)) (.slice none 0 0) (.slice aa cs.length ad) [] cs):=HG.out.later ((Keep.drew _ _).trans (Keep.alloc _ _ _)) 3;have gh:Hid (Ints (Tg (ja G wr 3) (wr.drew.alloc (.cells #[.slice za z.length zc,.bool false,.slice none 0 0] 73)) 2) .u8 (wr.drew.alloc (.cells #[.slice za z.length zc,.bool false,.slice none 0 0] 73)) za z.length (lf z)) :=
                          (HI.out.later (ud (Keep.drew (fun _=>False) wr).bel (uf wr.drew _))).wide (xM (by simp) (fun b H=>vS H) 2)
                        have di:Hid (∀bw v6,OwnC (fun b=>Tg (ja G wr 3) (wr.drew.alloc (.cells #[.slice za z.length zc,.bool false,.slice none 0 0] 73)) 1 b\/(wr.drew.alloc (.cells #[.slice za z.length zc,.bool false,.slice none 0 0] 73)).heap.size<=b) bw v6 3 (cs.length+1) (cs.flatMap ncL++ncL ⟨⟨z,false,[]⟩,za,zc,none,0⟩)->Grew (Tg (ja G wr 3) (wr.drew.alloc (.cells #[.slice za z.length zc,.bool false,.slice none 0 0] 73)) 1) (wr.drew.alloc (.cells #[.slice za z.length zc,.bool false,.slice none 0 0] 73)) bw ->
                            umq NS o.heap.size wE W7 C (.int .i64 ((i:Int)+1)) (bw.setCell ⟨o.heap.size,1,none⟩ v6)/\bw.cell? ⟨o.heap.size,1,none⟩=some (.slice aa cs.length ad)/\bw.frozen? ⟨o.heap.size,1,none⟩=false):=fun bw v6 au ak=>by
                          obtain⟨G',cg⟩:=cq.out.putL (x:=⟨⟨z,false,[]⟩,za,zc,none,0⟩) gh.out (uos _ _) au ak;obtain⟨_,y1,_,y2⟩:=ubr cq.out.v (by omega) ak
                          exact⟨⟨i+1,G',_,_,aq,by simp,cg,ap.out _ rfl,cq.out.keep (by omega) (by omega) be.out ag.out ((Keep.drew _ _).trans (Keep.alloc _ _ _)) ak⟩,y1,y2⟩
                        go_upto_region 39 with fail
                        go_region_law
                          (refine ubi rfl (.tmp 175) (.tmp 181) 26 26 rfl (v:=.slice aa cs.length ad) (y:=.slice (some ⟨wr.drew.heap.size,0,none⟩) 1 1) (by simp[Act.eval,Act.put]) (by simp[Act.eval,Act.put]) uqq (Q:=Tg (ja G wr 3) (wr.drew.alloc (.cells #[.slice za z.length zc,.bool false,.slice none 0 0] 73)) 1) (n:=cs.length) (cs:=cs.flatMap ncL) (m:=1) (news:=ncL ⟨⟨z,false,[]⟩,za,zc,none,0⟩) cq.out.v.gr.labs (ukA (x:=⟨⟨z,false,[]⟩,za,zc,none,0⟩) (World.alloc_heap_new wr.drew _)) (by have:=b5.out;omega) ?_
                           intro v6 F au ak cm;obtain⟨a6,c6,rfl⟩:=ul au;obtain⟨hE,y1,y2⟩:=di.out _ _ au ak;have HE:Hid (umq NS o.heap.size wE W7 C (.int .i64 ((i:Int)+1)) (F.setCell ⟨o.heap.size,1,none⟩ (.slice a6 (cs.length+1) c6))):=hE;clear au ak cm hE)
                        all_goals go_goals
                        all_goals (
                          go_wp2;go_roundw;all_goals first
                            |exact HE.out
                            | (simp[intOf];omega)
                            |omega)
                        --}
                      · have hlt':¬(i:Int)<NS:=by omega
                        have fi:Hid (ueY R o.heap.size wE W7 (uj f) C f (.int .i64 0) wr):=by
                          have h:=av.out;rw[List.take_of_length_le (by have:=ao.out;omega)]at h
                          exact⟨0,G,_,_,[],cs,Nat.zero_le _,rfl,HG.out,rfl,h,ag.out⟩
                        clear av HG ag z1 f1 hv b5;go_wp2;go_loopw [19] (ueY R o.heap.size wE W7 (uj f) C f) (fun u _=>R-(intOf u).toNat)
                        case atStart=>exact fi.out
                        case round =>
                          obtain⟨i,G,rv,lv,I,cs,hi,rfl,hG,eh,bp,hK⟩:=hrel;have HG:Hid (GVo o.heap.size wE G wr rv lv I cs):=hG;have c4:Hid (I.map (·.d)=xj (uj f) C (f.take i)):=eh
                          have av:Hid (cs.map (·.d)=xm (uj f) C (f.take i)):=bp
                          have ag:Hid (Keep (fun b=>b=o.heap.size) W7 wr):=hK
                          have cj:cs.length=NS:=by
                            have h:=congrArg List.length bp;unfold xm at h;rw[List.length_map,List.length_map]at h;rw[ao.out];exact h
                          have iq:I.length<=i:=by
                            have h:=congrArg List.length eh;unfold xj at h;rw[List.length_map,List.length_map]at h;have X:=List.length_filter_le (fun q:Rl=>!q.car.isSome) (f.take i)
                            rw[List.length_take]at X;omega
                          have a7:Hid (Below o.heap.size o wr):=b7.out.bel.trans (hK.below (by have:=be.out;omega) (fun k hk e=>by have e:k=o.heap.size:=e;omega))
                          obtain⟨aa,ad,rfl⟩:=ul hG.v.gr.labs;obtain⟨ae,aj,rfl⟩:=ul hG.v.gr.rules;have b5:Hid (cs.length=NS):=cj;clear hG eh bp hK fi cj;by_cases aq:i<R
                          · have hlt':(i:Int)<R:=by omega
                            obtain⟨q,O⟩:∃q,f[i]? = some q:=⟨_,List.getElem?_eq_getElem (by have:=ah.out;omega)⟩
                            have HQ:Hid (f[i]? = some q):=O;obtain⟨b,off,rfl,ab⟩:=gs.out.at (i:=i) (by have:=ah.out;omega)
                            obtain⟨Z,X,ba,bc,h3,h4,h5⟩:=ab i q O;obtain⟨qa,qc,q2,bj⟩:=X.nm;have k0:=uc Z a7.out;have k1:=uc q2 a7.out;have k5:=uc h3 a7.out;have fc:Hid (Ints (New w0 W1) .u8 wr qa q.name.nm.length (lf q.name.nm)):=bj.later a7.out;have fb:Hid (TokF t.n q.name):=(bf.out q (List.mem_of_getElem? O)).1;have de:Hid (Calls Tryz.prog 28 #[.slice ba q.body.tk.length bc,.slice va NN vc,.slice la NS lc] wr (Mk (q.body.ops (uj f) C) wr)):=by
                              have bh:=(bf.out q (List.mem_of_getElem? O)).2;have eg:=List.mem_of_getElem? O;have it:wtT q.body.tk<=8000:=by
                                obtain⟨l1,l2,hl⟩:=List.append_of_mem eg;have h:=cd.out;rw[hl,List.flatMap_append,List.flatMap_cons,yJ,yJ]at h;have e:wtT q.tk=wtT q.car.toList+(q.name.nm.length+1+(q.eq.nm.length+1+(wtT q.body.tk+wtT [q.semi]))):=by
                                  unfold Rl.tk;rw[yJ,wtT,wtT,yJ]
                                omega
                              have il:=(ums (uj f) C q.body).2 (c2.out q eg).2.2.2.1;have hN:Nms (fun _=>True) wr va la (uj f) C:=⟨gl.out.later a7.out,(dp.out.later a7.out).wide (fun _ _=>trivial),dn.out,ez.out,by have:=a9.out;omega,by have:=ao.out;omega⟩
                              have ij:=ubv q.body.tk;have H:=(ukx (fun _=>True) va la vc lc (uj f) C wr hN q.body (fun x hx=>(bh x hx).ok (by omega)) (by omega) ⟨by omega,umt _ _ _ 1048576 (by omega) (fun x hx=>((bh x hx).ok (by omega)).2.2)⟩).2.1 (c2.out q eg).2.2.2.1 ba bc wr (Keep.refl _ _) ((h4.later a7.out).wide (fun _ _=>trivial)) h5
                              rw[<-a9.out,<-ao.out]at H;exact H
                            have ik:q.name.nm.length<=1000000:=by have:=fb.out.len;omega
                            clear ab Z X h3 h4 h5 q2 bj O;obtain⟨D,hD⟩:∃D,D=q.body.ops (uj f) C:=⟨_,rfl⟩;have ep:Hid (q.body.ops (uj f) C=D):=hD.symm;rw[<-hD]at de;clear hD;go_wp2_with fail;refine de.out.mono ?_;clear de;rintro e F ⟨S,T,rfl,f2,dc⟩;have ek:Hid (BodP (New wr F) F (.slice S D.length T) D):=f2;have aw:Hid (Keep (fun _=>False) wr F):=dc
                            have j0:=uc k0 dc.bel;have j1:=uc k1 dc.bel;clear k0 k1 k5 f2 dc;cases ax:q.car with
                            |some cc =>
                              have HC:Hid (q.car.isSome=true):=by rw[ax];rfl
                              rw[ax]at j0;simp only[Option.isSome_some]at j0
                              --{
                              have gj:Hid (q.name.nm∈C):=(cv.out _).2 (by
                                unfold uy;refine List.mem_flatMap.2 ⟨q,List.mem_of_getElem? HQ.out,?_⟩;unfold xA;rw[HC.out];simp)
                              obtain⟨k,b2,f3⟩:=(jN q.name.nm C 0).1 gj.out;have al:Hid (Calls Tryz.prog 26 #[.slice la NS lc,.slice qa q.name.nm.length qc] F fun e w'=>e=.returned (.int .i64 (k:Nat))/\∃m,w'=F.drewN m):=by
                                have h:=kL (fun b=>b<o.heap.size) (New w0 W1) C q.name.nm la qa lc qc F ((dp.out.later a7.out).later aw.out.bel) (fc.out.later aw.out.bel) ez.out fb.out.byt (by have:=ao.out;omega)
                                rw[f3,Nat.zero_add,<-ao.out]at h;exact h
                              have ie:k<NS:=by have:=(List.getElem?_eq_some_iff.1 b2).1;have:=ao.out;omega
                              have hkN':(k:Int)<NS:=by omega
                              obtain⟨x,hx⟩:∃x,cs[k]? = some x:=⟨_,List.getElem?_eq_getElem (by have:=b5.out;omega)⟩
                              have gw:Hid (x.d.nm=q.name.nm):=by
                                have h:(cs.map (·.d))[k]? = some x.d:=by rw[List.getElem?_map,hx];rfl
                                rw[av.out]at h;unfold xm at h;rw[List.getElem?_map,b2]at h;injection h with h
                                rw[<-h];exact uds _ _ _ _
                              have fe:Hid (∀m,∃g c,(.slice aa cs.length ad:Value)=.slice (some ⟨g,0,none⟩) cs.length c/\o.heap.size≠g/\(F.drewN m).cell? ⟨g,k*3+1,none⟩=some (.bool x.d.has)/\(F.drewN m).frozen? ⟨g,k*3+1,none⟩=false/\(F.drewN m).cell? ⟨g,k*3+2,none⟩=some (.slice x.ba x.d.bd.length x.bc)/\(F.drewN m).frozen? ⟨g,k*3+2,none⟩=false /\
                                  ueY R o.heap.size wE W7 (uj f) C f (.int .i64 ((i:Int)+1)) (((F.drewN m).setCell ⟨g,k*3+1,none⟩ (.bool true)).setCell ⟨g,k*3+2,none⟩ (.slice S D.length T))):=fun m=>by
                                obtain⟨g,c,e1,e2,e3,e4,e5,e6,⟨G',cg⟩,e8⟩:=HG.out.recover (aw.out.trans (uI F m)) (D:=D) (ba:=S) (bc:=T) ((ek.out.on (fun b H=>(uI F m).block b H.2 (fun q=>q))).wide (fun b H=>⟨H.1,by have:=H.2;simpa using this⟩)) hx
                                refine⟨g,c,e1,e2,e3,e4,e5,e6,i+1,G',_,_,I,_,aq,by simp,cg,?_,?_,e8 W7 be.out ag.out⟩
                                · rw[List.take_add_one,HQ.out]
                                  show _=xj _ _ (_++[q]);rw[ubs,c4.out,HC.out];simp
                                · rw[List.take_add_one,HQ.out]
                                  show _=xm _ _ (_++[q]);rw[uif ej.out b2 HC.out (fun s hs=>(ugZ b6.out i q HQ.out) s (by simpa using hs)),List.map_set,av.out,gw.out,ep.out]
                              have z1:F.cell? ⟨o.heap.size,1,none⟩=some (.slice aa cs.length ad):=(HG.out.later aw.out 3).v.c1;have ia:(k:Int)<(cs.length:Int):=by have:=b5.out;omega
                              clear b2 f3 hx;go_wp2_with fail;refine al.out.mono ?_;rintro e W ⟨rfl,m,rfl⟩;obtain⟨g,c9,e1,e2,e3,e4,e5,e6,e7⟩:=fe.out m;have HE:Hid (ueY R o.heap.size wE W7 (uj f) C f (.int .i64 ((i:Int)+1)) (((F.drewN m).setCell ⟨g,k*3+1,none⟩ (.bool true)).setCell ⟨g,k*3+2,none⟩ (.slice S D.length T))):=e7;obtain rfl:aa=some ⟨g,0,none⟩:=by injection e1
                              have e2':¬g=o.heap.size:=fun q=>e2 q.symm
                              clear e7 e1 fe al;have z2:(F.drewN m).cell? ⟨o.heap.size,1,none⟩=some (.slice (some ⟨g,0,none⟩) cs.length ad):=by simpa using z1
                              generalize g1:F.drewN m=V8 at *;clear g1 z1;go_wp2;go_roundw;all_goals first
                                |exact HE.out
                                | (simp[intOf];omega)
                              --}
                            |none =>
                              rw[ax]at j0;simp only[Option.isSome_none]at j0
                              --{
                              have z0:F.cell? ⟨o.heap.size,0,none⟩=some (.slice ae I.length aj):=(HG.out.later aw.out 3).v.c0;have i3:o.heap.size<F.heap.size:=ub z0;have iu:b<F.heap.size:=ub j1;have gg:Hid (Ints (New w0 W1) .u8 F.drew qa q.name.nm.length (lf q.name.nm)):=(fc.out.later aw.out.bel).later (Keep.drew (fun _=>False) F).bel
                              have gx:Hid (∀A,Keep (fun _=>False) F.drew A->A.cell? ⟨o.heap.size,0,none⟩=some (.slice ae I.length aj)):=fun A k=>(HG.out.later ((aw.out.trans (Keep.drew _ _)).trans k) 3).v.c0
                              have gi:Hid (∀J U A,Ints (New F.drew A) .u8 A J q.name.nm.length (lf q.name.nm)->Keep (fun _=>False) F.drew A->∃G',GVo o.heap.size wE G' (A.alloc (.cells #[.slice J q.name.nm.length U,.slice S D.length T] 76)) (.slice ae I.length aj) (.slice aa cs.length ad) I cs/\Ints (Tg G' (A.alloc (.cells #[.slice J q.name.nm.length U,.slice S D.length T] 76)) 2) .u8 (A.alloc (.cells #[.slice J q.name.nm.length U,.slice S D.length T] 76)) J q.name.nm.length (lf q.name.nm)/\BodP (Tg G' (A.alloc (.cells #[.slice J q.name.nm.length U,.slice S D.length T] 76)) (4+2*I.length)) (A.alloc (.cells #[.slice J q.name.nm.length U,.slice S D.length T] 76)) (.slice S D.length T) D):=fun J U A hi hk=>by
                                have kk:Keep (fun _=>False) wr (A.alloc (.cells #[.slice J q.name.nm.length U,.slice S D.length T] 76)):=((aw.out.trans (Keep.drew _ _)).trans hk).trans (Keep.alloc _ _ _)
                                have z8:=aw.out.size;have z3:F.heap.size<=A.heap.size:=hk.size;refine HG.out.mid (N:=New F.drew A) (B:=New wr F) (4+2*I.length) kk (hi.later (uf A _)) (ek.out.on (fun b H=>((Keep.drew (fun _=>False) F).trans (hk.trans (Keep.alloc _ _ _))).block b H.2 (fun q=>q))) (fun b H=>⟨?_,?_⟩) (fun b H=>⟨H.1,?_⟩) (fun b H g2=>?_)
                                · have Z:F.heap.size<=b:=H.1
                                  omega
                                · have Z:=H.2
                                  simp;omega
                                · have Z:=H.2
                                  simp;omega
                                · have Z:F.heap.size<=b:=H.1
                                  have X:=g2.2;omega
                              have di:Hid (∀J U A G2 v6 W9,Keep (fun _=>False) F.drew A->GVo o.heap.size wE G2 (A.alloc (.cells #[.slice J q.name.nm.length U,.slice S D.length T] 76)) (.slice ae I.length aj) (.slice aa cs.length ad) I cs->Ints (Tg G2 (A.alloc (.cells #[.slice J q.name.nm.length U,.slice S D.length T] 76)) 2) .u8 (A.alloc (.cells #[.slice J q.name.nm.length U,.slice S D.length T] 76)) J q.name.nm.length (lf q.name.nm)->BodP (Tg G2 (A.alloc (.cells #[.slice J q.name.nm.length U,.slice S D.length T] 76)) (4+2*I.length)) (A.alloc (.cells #[.slice J q.name.nm.length U,.slice S D.length T] 76)) (.slice S D.length T) D ->
                                  OwnC (fun b=>Tg G2 (A.alloc (.cells #[.slice J q.name.nm.length U,.slice S D.length T] 76)) 0 b\/(A.alloc (.cells #[.slice J q.name.nm.length U,.slice S D.length T] 76)).heap.size<=b) W9 v6 2 (I.length+1) (I.flatMap ncR++ncR ⟨⟨q.name.nm,true,D⟩,J,U,S,T⟩)->Grew (Tg G2 (A.alloc (.cells #[.slice J q.name.nm.length U,.slice S D.length T] 76)) 0) (A.alloc (.cells #[.slice J q.name.nm.length U,.slice S D.length T] 76)) W9 ->
                                  ueY R o.heap.size wE W7 (uj f) C f (.int .i64 ((i:Int)+1)) (W9.setCell ⟨o.heap.size,0,none⟩ v6)/\W9.cell? ⟨o.heap.size,0,none⟩=some (.slice ae I.length aj)/\W9.frozen? ⟨o.heap.size,0,none⟩=false):=fun J U A G2 v6 W9 hk hg hn H au ak=>by
                                obtain⟨G',cg⟩:=hg.putR (x:=⟨⟨q.name.nm,true,D⟩,J,U,S,T⟩) hn H au ak;obtain⟨y0,_,y2,_⟩:=ubr hg.v (by omega) ak
                                refine⟨⟨i+1,G',_,_,_,cs,aq,by simp,cg,?_,?_,hg.keep (by omega) (by omega) be.out ag.out (((aw.out.trans (Keep.drew _ _)).trans hk).trans (Keep.alloc _ _ _)) ak⟩,y0,y2⟩
                                · rw[List.take_add_one,HQ.out]
                                  show _=xj _ _ (_++[q]);rw[ubs,List.map_append,c4.out,ax];simp[uiq,ep.out]
                                · rw[List.take_add_one,HQ.out]
                                  show _=xm _ _ (_++[q]);rw[ugQ ax,av.out]
                              have ir:I.length<=8000:=by omega
                              go_upto_region 48 with fail
                              go_region_law (first
                                | (refine ur3 rfl (.tmp 224) (.tmp 230) rfl (W:=F.drew) (ya:=qa) (yc:=qc) (z:=q.name.nm) rfl (by simp[Act.eval,Act.put]) (by simp[Act.eval,Act.put]) gg.out (by omega) ?_
                                   intro J U A gf a8;have z3:=gx.out A a8.out;have i4:o.heap.size<A.heap.size:=ub z3)
                                | (obtain⟨G2,eb,f4,db⟩:=gi.out J U A gf.out a8.out
                                   refine ubi rfl (.tmp 223) (.tmp 234) 25 25 rfl (v:=.slice ae I.length aj) (y:=.slice (some ⟨A.heap.size,0,none⟩) 1 1) (by simp[Act.eval,Act.put]) (by simp[Act.eval,Act.put]) ulp (Q:=Tg G2 (A.alloc (.cells #[.slice J q.name.nm.length U,.slice S D.length T] 76)) 0) (n:=I.length) (cs:=I.flatMap ncR) (m:=1) (news:=ncR ⟨⟨q.name.nm,true,D⟩,J,U,S,T⟩) eb.v.gr.rules (umf (x:=⟨⟨q.name.nm,true,D⟩,J,U,S,T⟩) (World.alloc_heap_new A _)) (by omega) ?_
                                   intro v6 W9 au ak cm;obtain⟨a6,c6,rfl⟩:=ul au;obtain⟨hE,y1,y2⟩:=di.out J U A G2 _ W9 a8.out eb f4 db au ak;have HE:Hid (ueY R o.heap.size wE W7 (uj f) C f (.int .i64 ((i:Int)+1)) (W9.setCell ⟨o.heap.size,0,none⟩ (.slice a6 (I.length+1) c6))):=hE;clear au ak cm hE eb f4 db))
                              all_goals go_goals
                              all_goals (
                                go_wp2;go_roundw;all_goals first
                                  |exact HE.out
                                  | (simp[intOf];omega)
                                  |omega)
                              --}
                          · have hlt':¬(i:Int)<R:=by omega
                            have dj:Hid (gram (I.map (·.d)) (cs.map (·.d))=yA C f):=by
                              have Z:=c4.out;have X:=av.out;rw[List.take_of_length_le (by have:=ah.out;omega)]at Z X
                              show _=_;rw[Z,X];rfl
                            obtain⟨hu,i2,ho,ix,er,el,fu⟩:=HG.out.v.gr.gram;have ge:Hid (GramA (Of wr) wr ae aa (yA C f)):=by
                              have h:=fu.plain;rw[dj.out]at h;obtain rfl:ae=hu:=by injection er
                              obtain rfl:aa=ho:=by injection el
                              exact⟨h.rules.wide (fun b H=>H.2),h.labs.wide (fun b H=>H.2)⟩
                            have cz:Hid ((yA C f).nr=I.length/\(yA C f).nb=cs.length):=by
                              rw[<-dj.out];exact⟨by show (I.map (·.d)).length=_;rw[List.length_map],by show (cs.map (·.d)).length=_;rw[List.length_map]⟩
                            clear fu er el;have z0:wr.cell? ⟨o.heap.size,0,none⟩=some (.slice ae I.length aj):=HG.out.v.c0;have z1:wr.cell? ⟨o.heap.size,1,none⟩=some (.slice aa cs.length ad):=HG.out.v.c1;have f8:w.heap.size<o.heap.size:=(Array.getElem?_eq_some_iff.1 fd.out).1;have fh:Hid (wr.heap[w.heap.size]? = some (.cells #[.slice none 0 0,.slice none 0 0] 28)):=(ag.out.block w.heap.size (by have:=be.out;omega) (by show ¬w.heap.size=_;omega)).trans ((b7.out.block w.heap.size f8 (fun q=>q)).trans fd.out)
                            have ex:Hid (Keep (fun _=>False) w wr):=by
                              have k1:=ew.out.trans b7.out;have ii:w.heap.size<=o.heap.size:=ew.out.size;exact⟨ag.out.os.trans k1.os,ag.out.tape.trans k1.tape,ag.out.output.trans k1.output,Nat.le_trans k1.size ag.out.size,fun b H hn=>(ag.out.block b (by have:=k1.size;omega) (by show ¬b=_;omega)).trans (k1.block b H hn)⟩
                            have gt:Hid (vP (yA C f)):=ufI c2.out cd.out bf.out ee (by have:=ah.out;omega) (by have:=ao.out;omega) (fun z hz=>cu.out z ((cv.out z).1 hz))
                            have ce:=qw (Of wr) ae aa aj ad (yA C f) wr ge.out gt.out;rw[cz.out.1,cz.out.2]at ce;have ce:Hid (Calls Tryz.prog 29 #[.agg #[.slice ae I.length aj,.slice aa cs.length ad]] wr (xS (M.Valid (yA C f)) wr)):=ce;have fl:Hid (∀code at_ g,((M.Valid (yA C f)/\code=0/\at_=0/\g=yA C f)\/(¬M.Valid (yA C f)/\code=7/\at_=0/\g=uaI))->PRs t code at_ g):=fun code at_ g h=>b8.out _ _ _ (by
                              unfold xp;rw[b6.out,ff.out];simp only[gk.out,if_false];exact⟨C,ej.out,cv.out,h⟩)
                            clear c4 av cv;go_wp2_with fail;refine ce.out.mono ?_;clear ce;rintro e W9 ⟨⟨r,rfl,hr⟩,bz⟩;have h0:Hid (Below wr.heap.size wr W9):=bz;have E:=bz.block w.heap.size (Array.getElem?_eq_some_iff.1 fh.out).1;rw[fh.out]at E;have c0:W9.cell? ⟨w.heap.size,0,none⟩=some (.slice none 0 0):=ui E rfl;have c1:W9.cell? ⟨w.heap.size,1,none⟩=some (.slice none 0 0):=ui E rfl;have f0:W9.frozen? ⟨w.heap.size,0,none⟩=false:=ur E;have f1:W9.frozen? ⟨w.heap.size,1,none⟩=false:=ur E;have gp:Hid (W9.heap[w.heap.size]? = some (.cells #[.slice none 0 0,.slice none 0 0] 28)):=E;have y0:=uc z0 bz;have y1:=uc z1 bz;have dk:Hid (Keep (fun _=>False) wr W9):=Keep.of_below bz (fun k hk _=>hk)
                            clear bz z0 z1 E;cases r with
                            |false =>
                              have gm:Hid (¬M.Valid (yA C f)):=fun q=>absurd (hr.2 q) (by decide)
                              have am:Hid (xi t w (.returned (.tuple #[.agg #[.slice none 0 0,.slice none 0 0],.int .i64 7,.int .i64 0])) ((W9.setCell ⟨w.heap.size,0,none⟩ (.slice none 0 0)).setCell ⟨w.heap.size,1,none⟩ (.slice none 0 0))) :=
                                kM (fl.out _ _ _ (.inr ⟨gm.out,rfl,rfl,rfl⟩)) (vw (vw (ex.out.trans dk.out) (Nat.le_refl _)) (Nat.le_refl _))
                              clear hr;go_wp2;refine bodyPost_ret (v:=.tuple #[.agg #[.slice none 0 0,.slice none 0 0],.int .i64 7,.int .i64 0]) ?_ rfl ?_
                              · simp[results,Tryz.f5,go_sem, *]
                              · exact am.out
                            |true =>
                              have HV:Hid (M.Valid (yA C f)):=hr.1 rfl;have am:Hid (xi t w (.returned (.tuple #[.agg #[.slice ae I.length aj,.slice aa cs.length ad],.int .i64 0,.int .i64 0])) ((W9.setCell ⟨w.heap.size,0,none⟩ (.slice ae I.length aj)).setCell ⟨w.heap.size,1,none⟩ (.slice aa cs.length ad))):=by
                                refine⟨0,0,yA C f,ae,aj,aa,ad,fl.out _ _ _ (.inl ⟨HV.out,rfl,rfl,rfl⟩),by rw[cz.out.1,cz.out.2],?_,vw (vw (ex.out.trans dk.out) (Nat.le_refl _)) (Nat.le_refl _)⟩
                                obtain⟨ht,i1,hh,iw,er,el,hX⟩:=HG.out.answer (u:=.slice ae I.length aj) (v:=.slice aa cs.length ad) dk.out gp.out f8;rw[dj.out]at hX;obtain rfl:ae=ht:=by injection er
                                obtain rfl:aa=hh:=by injection el
                                exact hX
                              clear hr;go_wp2;refine bodyPost_ret (v:=.tuple #[.agg #[.slice ae I.length aj,.slice aa cs.length ad],.int .i64 0,.int .i64 0]) ?_ rfl ?_
                              · simp[results,Tryz.f5,go_sem, *]
                              · exact am.out
end Go.Proofs.YtpghlcdkfldlpaaGreat
