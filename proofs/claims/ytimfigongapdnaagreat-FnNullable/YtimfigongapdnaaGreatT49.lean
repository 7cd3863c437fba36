import Derived.Test.YtimfigongapdnaaGreatT34
import Derived.Deep.DeepCutAuto
set_option linter.unusedVariables false
set_option linter.unusedSimpArgs false
set_option maxHeartbeats 40000000
set_option maxRecDepth 100000
namespace Go.Proofs.YtimfigongapdnaaGreat
open Go.RowKit
open M (OpD ug Gr)
def uk5(l:List Tok)(j:Nat):Bool:=if j=0 then false else kAt l (j-1)==94
def ue3(a:List Rl)(q:Rl)(j:Nat):Prop:=∀x,q.body.tk[j]? = some x->x.kind=110->uk5 q.body.tk j=false->x.nm∈uO a
structure TxG(t:Tx)(qs:List Rl)(ls:List (List Int))(g:Gr):Prop where
  small:t.n<=4000
  rd:ubx t.n ((kR t).length+1) (kR t)=.inr qs
  dup:∀(i j:Nat) q s,j<i->qs[i]? = some q->qs[j]? = some s->qi s q=false
  ref:∀q,q∈qs->∀j:Nat,ue3 qs q j
  asc:Asc ls
  labs:∀z,z∈ls↔z∈uB qs
  eq:g=jd ls qs
  ok:M.Valid g
def PRs(t:Tx)(code:Int)(g:Gr):Prop:=(code=0/\∃b a,TxG t b a g)\/(code≠0/\g=uqI/\∀b a c,¬TxG t b a c)
theorem ufY:∀{l b:List (List Int)},Asc l->Asc b->(∀z,z∈l↔z∈b)->l=b
  | [],[],_,_,_=>rfl
  | [],y::s,_,_,h=>absurd ((h y).2 (List.mem_cons_self ..)) (by simp)
  |x::r,[],_,_,h=>absurd ((h x).1 (List.mem_cons_self ..)) (by simp)
  |x::r,y::s,ha,hb,h=>by
    have e:x=y:=by
      rcases ufW x y with q | q | q
      · rcases List.mem_cons.1 ((h x).1 (List.mem_cons_self ..)) with z | z
        · exact z
        · exact absurd (udz q (hb.1 x z)) (xx x)
      · exact q
      · rcases List.mem_cons.1 ((h y).2 (List.mem_cons_self ..)) with z | z
        · exact z.symm
        · exact absurd (udz q (ha.1 y z)) (xx y)
    subst e;rw[ufY ha.2 hb.2 (fun z=>⟨fun a=>?_,fun a=>?_⟩)]
    · rcases List.mem_cons.1 ((h z).1 (List.mem_cons_of_mem _ a)) with q | q
      · rw[q]at a
        exact absurd (ha.1 _ a) (xx _)
      · exact q
    · rcases List.mem_cons.1 ((h z).2 (List.mem_cons_of_mem _ a)) with q | q
      · rw[q]at a
        exact absurd (hb.1 _ a) (xx _)
      · exact q
theorem upl{t c g a}(h:PRs t 0 g)(k:PRs t c a):c=0/\g=a:=by
  rcases h with⟨_,i,d,h⟩ | h
  · rcases k with⟨b,j,f,k⟩ | k
    · have e:=h.rd.symm.trans k.rd
      injection e with e
      subst e;rw[h.eq,k.eq,ufY h.asc k.asc (fun z=>(h.labs z).trans (k.labs z).symm)]
      exact⟨b,rfl⟩
    · exact absurd h (k.2.2 _ _ _)
  · exact absurd rfl h.1
theorem uk6{t g}(h:PRs t 0 g):M.Valid g:=by
  rcases h with⟨_,b,a,h⟩ | h
  · exact h.ok
  · exact absurd rfl h.1
def qI(t:Tx)(w:World)(e:Ending)(w':World):Prop :=
  ∃code at_ g a b la lc,PRs t code g/\e=.returned (.tuple #[.agg #[.slice a g.nr b,.slice la g.nb lc],.int .i64 code,.int .i64 at_])/\GramX (Of w') w' a la g/\Keep (fun _=>False) w w'
theorem uai{w W}(h:Keep (fun _=>False) w W){b o v}(d:w.heap.size<=b):Keep (fun _=>False) w (W.setCell ⟨b,o,none⟩ v) :=
  ⟨h.os,h.tape,h.output,by rw[uj];exact h.size,fun x c a=>(Below.heap_setCell _ _ _ _ (fun e=>by have e':x=b:=e;omega)).trans (h.block x c a)⟩
def zv:Array Value:=#[.slice none 0 0,.slice none 0 0]
def zt(c a:Int):Value:=.tuple #[.agg #[.slice none 0 0,.slice none 0 0],.int .i64 c,.int .i64 a]
def Bad(t:Tx):Prop:=∀b a g,¬TxG t b a g
theorem ujS{t w w' c a}(b:c≠0)(h:Bad t)(k:Keep (fun _=>False) w w'):qI t w (.returned (zt c a)) w' :=
  ⟨c,a,uqI,none,0,none,0,.inr ⟨b,rfl,h⟩,rfl,⟨.inl rfl,.inl rfl⟩,k⟩
theorem qJ{t w W c a}(b:c≠0)(h:Bad t)(k:Keep (fun _=>False) w W):qI t w (.returned (zt c a)) ((W.setCell ⟨w.heap.size,0,none⟩ (.slice none 0 0)).setCell ⟨w.heap.size,1,none⟩ (.slice none 0 0)) :=
  ujS b h (uai (uai k (Nat.le_refl _)) (Nat.le_refl _))
theorem ubv z:∀(l:List (List Int)) (i:Nat),(z∈l->∃k,l[k]? = some z/\xC z l i=((i+k:Nat):Int))/\(z ∉ l->xC z l i = -1)
  | [],i=>⟨(fun h=>by cases h),fun _=>rfl⟩
  |y::r,i=>by
    obtain⟨c,d⟩:=ubv z r (i+1);rw[xC];by_cases e:y=z
    · rw[if_pos e]
      subst e;exact⟨fun _=>⟨0,rfl,rfl⟩,fun h=>absurd (by simp) h⟩
    · rw[if_neg e]
      refine⟨fun h=>?_,fun h=>d (fun q=>h (by simp[q]))⟩
      rcases List.mem_cons.1 h with q | q
      · exact absurd q.symm e
      · obtain⟨k,a,b⟩:=c q
        exact⟨k+1,a,by rw[b];congr 1;omega⟩
structure PG(w:World)(Q:Nat->Prop)(qs:List Rl)(ra:Option Addr)(W:World):Prop where
  keep:Keep (fun _=>False) w W
  res:Box W w.heap.size zv
  rl:RlsA Q W ra qs
theorem PG.on{w W a Q b c}(h:PG w Q b c W)(k:Keep (fun _=>False) W a):PG w Q b c a:=⟨h.keep.trans k,h.res.on k.bel,h.rl.later k.bel⟩
def uqH(NS a:Nat)(g c:World)(e:List (List Int))(u:Value)(wr:World):Prop :=
  ∃(i:Nat) (G:Nat->Nat) (f:Value) (cs:List GC),i<=NS/\u=.int .i64 ((i:Nat):Int)/\GVo a g G wr (.slice none 0 0) f [] cs/\cs.map (·.d)=(e.take i).map (fun z=>(⟨z,false,[]⟩:NL))/\Keep (fun b=>b=a) c wr
def ujT(h a:Nat)(m j:World)(e c:List (List Int))(f:List Rl)(u:Value)(wr:World):Prop :=
  ∃(i:Nat) (G:Nat->Nat) (l k:Value) (g cs:List GC),i<=h/\u=.int .i64 ((i:Nat):Int)/\GVo a m G wr l k g cs/\g.map (·.d)=yD e c (f.take i)/\cs.map (·.d)=yN e c (f.take i)/\Keep (fun b=>b=a) j wr
theorem upm{a NS i n h wr X G k z f l zc m cs}(q:GVo a n G wr (.slice none 0 0) (.slice l cs.length m) [] cs)(r:Ints (Tg G wr 2) .u8 wr f z.length (lf z))(E:k[i]? = some z)(C:i<NS)(p:cs.map (·.d)=(k.take i).map (fun z=>(⟨z,false,[]⟩:NL)))(w:h.heap.size=a+1)(u:Keep (fun b=>b=a) h wr)(A:wr.drew.alloc (.cells #[.slice f z.length zc,.bool false,.slice none 0 0] 70)=X):∃g,OwnC (Tg g X 1) X (.slice l cs.length m) 3 cs.length (cs.flatMap ncL)/\∀W v,OwnC (fun b=>Tg g X 1 b\/X.heap.size<=b) W v 3 (cs.length+1) (cs.flatMap ncL++ncL ⟨⟨z,false,[]⟩,f,zc,none,0⟩)->Grew (Tg g X 1) X W ->
      uqH NS a n h k (.int .i64 ((i:Int)+1)) (W.setCell ⟨a,1,none⟩ v)/\W.cell? ⟨a,1,none⟩=some (.slice l cs.length m)/\W.frozen? ⟨a,1,none⟩=false:=by
  have e:Keep (fun _=>False) wr X:=A▸(Keep.drew _ _).trans (Keep.alloc _ _ _)
  have c:=q.later e 3;have s:=(r.later e.bel).wide (xw e.size (fun b B=>vL (t:=3) B) 2)
  refine⟨_,c.v.gr.labs,fun W v D j=>?_⟩
  obtain⟨o,y⟩:=c.putL (x:=⟨⟨z,false,[]⟩,f,zc,none,0⟩) s (uph _ _) D j;obtain⟨_,y1,_,y2⟩:=ubr c.v (by omega) j
  exact⟨⟨i+1,o,_,_,C,by simp,y,by rw[List.map_append,p,List.take_add_one,E,List.map_append];simp,c.keep (by omega) (by omega) w u e j⟩,y1,y2⟩
theorem upn{g A i J r wr a f X G o n p q D w ad k j y ae l c3 e cs}(Q:GVo g J G wr (.slice w e.length y) (.slice ad cs.length ae) e cs)(T:e.map (·.d)=yD o n (p.take i))(P:cs.map (·.d)=yN o n (p.take i))(U:r.heap.size=g+1)(S:Keep (fun b=>b=g) r wr)(H:p[i]? = some q)(ab:i<A)(F:q.car=none)(Y:q.body.ops o n=D)(z:Keep (fun _=>False) wr a)(O:BodP (New wr a) a (.slice k D.length l) D)(R:Ints (New a.drew f) .u8 f j q.name.nm.length (lf q.name.nm))(u:Keep (fun _=>False) a.drew f)(E:f.alloc (.cells #[.slice j q.name.nm.length c3,.slice k D.length l] 73)=X) :
    ∃h,OwnC (Tg h X 0) X (.slice w e.length y) 2 e.length (e.flatMap ncR)/\∀W v,OwnC (fun b=>Tg h X 0 b\/X.heap.size<=b) W v 2 (e.length+1) (e.flatMap ncR++ncR ⟨⟨q.name.nm,true,D⟩,j,c3,k,l⟩)->Grew (Tg h X 0) X W ->
      ujT A g J r o n p (.int .i64 ((i:Int)+1)) (W.setCell ⟨g,0,none⟩ v)/\W.cell? ⟨g,0,none⟩=some (.slice w e.length y)/\W.frozen? ⟨g,0,none⟩=false:=by
  have s:Keep (fun _=>False) f X:=E▸Keep.alloc _ _ _
  have hs:X.heap.size=f.heap.size+1:=by rw[<-E];simp
  have I:=((z.trans (Keep.drew _ _)).trans u).trans s;have z8:=z.size;have z3:a.heap.size<=f.heap.size:=u.size;obtain⟨h,m,hn,c⟩:=Q.mid (N:=New a.drew f) (B:=New wr a) (4+2*e.length) I (R.later s.bel) (O.on (fun b c=>((Keep.drew (fun _=>False) a).trans (u.trans s)).block b c.2 (fun q=>q))) (fun b c=>by have V:a.heap.size<=b:=c.1;have C:=c.2;exact⟨by omega,by omega⟩) (fun b c=>by have C:=c.2;exact⟨c.1,by omega⟩) (fun b c aa=>by have V:a.heap.size<=b:=c.1;have C:=aa.2;omega)
  refine⟨h,m.v.gr.rules,fun W v ac t=>?_⟩
  obtain⟨L,Z⟩:=m.putR (x:=⟨⟨q.name.nm,true,D⟩,j,c3,k,l⟩) hn c ac t;obtain⟨y0,_,y2,_⟩:=ubr m.v (by omega) t
  refine⟨⟨i+1,L,_,_,_,cs,ab,by simp,Z,?_,?_,m.keep (by omega) (by omega) U S I t⟩,y0,y2⟩
  · rw[List.take_add_one,H]
    show _=yD _ _ (_++[q]);rw[ubs,List.map_append,T,F];simp[uiE,Y]
  · rw[List.take_add_one,H]
    show _=yN _ _ (_++[q]);rw[uhc F,P]
theorem umZ:∀l:List Rl,l.length<=(l.flatMap Rl.tk).length
  | []=>Nat.zero_le _
  |x::l=>by have:=x.len;have:=umZ l;simp only[List.flatMap_cons,List.length_append,List.length_cons];omega
theorem uiD Q t a c w(hT:TxA Q w a t) :
    Calls Tryz.prog 5 #[.slice a t.n c] w (qI t w):=by
  have hn:=t.le;have HT:=ua hT;clear hT;go_enter Tryz.func5,Tryz.ntmps5;by_cases f6:4000<t.n
  · have f3:(t.n:Int) > 4000:=by omega
    have aa:Hid (Bad t):=fun _ _ _ h=>by have:=h.small;omega
    go_wp2;exact bodyPost_ret (v:=zt 7 0) (by simp[zt,results,Tryz.f5,go_sem]) rfl (ujS (by decide) aa (Keep.alloc _ _ _))
  have f4:decide ((t.n:Int) > 4000)=false:=decide_eq_false (by omega)
  have ef:t.n<=4000:=by omega
  go_wp2_with fail;generalize dd:w.alloc _=w0;have br:Hid (Keep (fun _=>False) w w0):=dd▸Keep.alloc _ _ _
  have BR:Hid (Box w0 w.heap.size zv):=dd▸ux w _ _;clear dd;refine (uf1 Q t a c w0 (HT.out.keep br.out)).mono ?_;rintro e W1 ⟨ta,tc,L,rfl,hL,eb⟩;have hL':L.length=(kR t).length:=by rw[<-hL,List.length_map]
  have c2:=eb.read;obtain⟨P,h⟩:=eb;have dc:(kR t).length<=tc:=by
    rcases h.own with⟨e,q,_⟩|⟨g,cap,e,A,h3,h4,h5,h6⟩
    · omega
    · injection e with e1 e2 e3
      omega
  rw[hL]at c2;have b4:=ua c2;have cd:=ua h.keep;replace BR:=ua (BR.on h.keep.bel);obtain⟨aj,fi⟩:=um0 t;have ea:(kR t).length<=8000:=by have:=ubw (kR t);omega
  have cj:=ua aj;have ck:Hid (wtT (kR t)<=8000):=by show _<=_;omega
  clear h hL hL' c2 aj fi;obtain⟨TL,cq⟩:=nm (kR t);have ca:=ua cq;rw[cq]at dc b4 ea cj ck ⊢;obtain⟨fd,az⟩:=nm TL.length;have bz:=ua az;rw[az]at dc ea ⊢;clear cq az;go_wp2_with fail;have c7:=uho (New w0 W1) TL ta tc t.n W1 b4.out (by have:=bz.out;omega)
  rw[bz.out]at c7;refine c7.mono ?_;clear c7;rintro e W ⟨rfl,hw⟩;subst W;obtain⟨r1,r2⟩:=ue5 t.n (TL.length+1) TL (by omega)
  cases a2:ubx t.n (TL.length+1) TL with
  |inl p =>
    have aa:Hid (Bad t):=fun _ _ _ h=>by have:=h.rd;rw[ca.out,a2]at this;cases this
    rw[r1 p a2];have gh:decide ((p:Int) ≥ 0)=true:=decide_eq_true (by omega)
    have gi:(0:Int)<=(p:Int):=by omega
    obtain⟨Y,f0,l0⟩:=BR.x;unfold zv at Y;clear r1 r2 a2;go_wp2;exact bodyPost_ret (v:=zt 5 p) (by simp[zt,results,Tryz.f5,go_sem, *]) rfl (qJ (by decide) aa (br.out.trans cd.out))
  |inr f =>
  obtain⟨eg,bk,ei⟩:=r2 f a2;rw[ei];have b2:=ua eg;have be:Hid (ubx t.n ((kR t).length+1) (kR t)=.inr f):=by rw[ca.out];exact a2
  have am:Hid (∀q∈f,TokF t.n q.name/\∀x∈q.body.tk,TokF t.n x):=fun q A=>by
    have hm:∀x∈q.tk,TokF t.n x:=fun x F=>cj.out x (by rw[bk];exact List.mem_flatMap.2 ⟨q,A,F⟩)
    exact⟨hm _ (List.mem_of_getElem? q.name_at),fun x F=>hm x (by unfold Rl.tk;simp[F])⟩
  have bh:Hid (wtT (f.flatMap Rl.tk)<=8000):=by rw[<-bk];exact ck.out
  have fg:f.length<=8000:=by have H:=ubw (f.flatMap Rl.tk);have h3:=umZ f;have:=bh.out;omega
  have d7:=uhl (New w0 W1) f b2.out ta tc fd W1 (by rw[<-bz.out,bk]) (by rw[<-bk];exact b4.out) (by omega) dc
  have dv:=ua d7;clear r1 r2 a2 ei eg bk d7;go_wp2_with fail;refine dv.out.mono ?_;rintro e W2 ⟨ra,rc,rfl,d8,X⟩;have o:Hid (PG w (New w0 W1) f ra W2):=⟨(br.out.trans cd.out).trans X,BR.on X.bel,d8⟩;clear X d8 cd BR b4 cj ck bz ca br dv;generalize New w0 W1=Q1 at *;obtain⟨B,cy⟩:=nm f.length;have ac:=ua cy;rw[cy]at fg ⊢;clear cy;have a4:Hid (∀i,i<B->∃q,f[i]? = some q):=fun i hi=>⟨_,List.getElem?_eq_getElem (by have:=ac.out;omega)⟩
  go_wp2;go_loopw [8] (fun v8 wr=>∃i,i<=B/\v8=.int .i64 ((i:Nat):Int)/\PG w Q1 f ra wr/\∀a b q s,a<i->b<a->f[a]? = some q->f[b]? = some s->qi s q=false) (fun v8 _=>B-(intOf v8).toNat)
  case atStart=>exact⟨0,Nat.zero_le _,rfl,o.out,fun a b q s h=>by omega⟩
  case round =>
    obtain⟨i,hi,rfl,hP,hD⟩:=hrel;have o:=ua hP;have HD:=ua hD;clear hD hP;by_cases R:i<B
    · have hlt':(i:Int)<B:=by omega
      obtain⟨q,A⟩:=a4 i R;have HQ:=ua A;have b3:=ua (am q (List.mem_of_getElem? A)).1.byt;clear A;go_wp2;go_loopw [9] (fun v9 wr=>∃j,j<=i/\v9=.int .i64 ((j:Nat):Int)/\PG w Q1 f ra wr/\∀b s,b<j->f[b]? = some s->qi s q=false) (fun v9 _=>i-(intOf v9).toNat)
      case atStart=>exact⟨0,Nat.zero_le _,rfl,o.out,fun b s h=>by omega⟩
      case round =>
        obtain⟨j,hj,rfl,hP,hA⟩:=hrel;have o:=ua hP;have HA:=ua hA;by_cases a0:j<i
        · have hjl':(j:Int)<i:=by omega
          have f9:(j:Int)<B:=by omega
          obtain⟨s,hs⟩:=a4 j (by omega)
          obtain⟨b,off,rfl,J⟩:=hP.rl.at (i:=i) (by have:=ac.out;omega)
          obtain⟨k0,ay,_⟩:=J i q HQ.out;obtain⟨k3,d0,_⟩:=J j s hs;obtain⟨qa,qc,k1,q2⟩:=ay.nm;obtain⟨sa,sc,k4,s2⟩:=d0.nm;have k2:=ay.at_;have HY:∀n,(convert 22 9 (.slice qa q.name.nm.length qc)).run Tryz.prog (wr.drewN n)=.ok (.string (str q.name.nm.length (lf q.name.nm))) (wr.drewN n):=fun n=>vo _ qa q.name.nm.length qc (lf q.name.nm) _ (q2.later (below_drewN (Below.refl _ wr) n))
          have HZ:∀n,(convert 22 9 (.slice sa s.name.nm.length sc)).run Tryz.prog (wr.drewN n)=.ok (.string (str s.name.nm.length (lf s.name.nm))) (wr.drewN n):=fun n=>vo _ sa s.name.nm.length sc (lf s.name.nm) _ (s2.later (below_drewN (Below.refl _ wr) n))
          have bg:=ua (ueW b3.out (am s (List.mem_of_getElem? hs)).1.byt);have ax:Hid (qi s q=(s.car.isSome==q.car.isSome&&decide (s.name.nm=q.name.nm))):=rfl;have T:Hid (qi s q=false->∀b s,b<j+1->f[b]? = some s->qi s q=false):=fun h b s' C b8=>by
            by_cases e:b=j
            · subst e;rw[hs]at b8;cases b8;exact h
            · exact HA.out b s' (by omega) b8
          have bp:Hid (qi s q=true->Bad t):=fun h _ _ _ k=>by
            have e:=be.out.symm.trans k.rd;injection e with e
            have:=k.dup i j q s a0 (e▸HQ.out) (e▸hs);rw[h]at this;cases this
          generalize str q.name.nm.length (lf q.name.nm)=sy at *;generalize str s.name.nm.length (lf s.name.nm)=sz at *;generalize q.car.isSome=bq at *;generalize s.car.isSome=bs at *;clear J ay d0 q2 s2 hs HA hA;by_cases b7:bs=bq
          · subst b7
            by_cases hs:sy=sz
            · subst hs
              have HF:=ua (bp.out (by rw[ax.out,bg.out.1 rfl];simp))
              obtain⟨Y,f0,l0⟩:=hP.res.x;unfold zv at Y;clear bg ax T bp hP;cases bs
              all_goals
                go_upto_region 14 with fail
                go_quiet (fail);go_upto_region 15 with fail
                go_region;go_wp2;exact bodyPost_ret (v:=zt 6 q.name.at_) (by simp[zt,results,Tryz.f5,go_sem, *]) rfl (qJ (by decide) HF (o.out.keep.trans (uX wr _)))
            · have b8:(sy.toList==sz.toList)=false:=by
                rw[beq_eq_false_iff_ne];exact fun q=>hs (umM q)
              have an:=ua (T.out (by rw[ax.out];simp;exact fun e=>hs (bg.out.2 e.symm)))
              clear bg ax T bp hP;cases bs
              all_goals
                go_upto_region 14 with fail
                go_quiet (fail);go_wp2;exact⟨⟨j+1,a0,by simp,o.out.on (uX wr _),an.out⟩,by simp[intOf];omega⟩
          · have an:=ua (T.out (by rw[ax.out];simp[b7]))
            clear bg ax T bp hP;cases bs<;>cases bq
            all_goals first
              |exact absurd rfl b7
              | (clear b7
                 go_upto_region 14 with fail
                 go_quiet (fail);go_wp2;exact⟨⟨j+1,a0,by simp,o.out.on (uX wr _),an.out⟩,by simp[intOf];omega⟩)
        · have hjl':¬(j:Int)<i:=by omega
          obtain rfl:j=i:=by omega
          have ep:Hid (∀a b q s,a<j+1->b<a->f[a]? = some q->f[b]? = some s->qi s q=false):=fun a b q' s' ha C H I=>by
            by_cases e:a=j
            · subst e;rw[HQ.out]at H;cases H;exact HA.out b s' C I
            · exact HD.out a b q' s' (by omega) C H I
          clear hA hP;go_wp2;go_roundw
          case rel=>exact⟨j+1,R,by go_num,o.out,ep.out⟩
          case measure=>simp[intOf];omega
    · have hlt':¬(i:Int)<B:=by omega
      have dj:Hid (∀a b q s,b<a->f[a]? = some q->f[b]? = some s->qi s q=false):=fun a b q s C H I=>HD.out a b q s (by have:=(List.getElem?_eq_some_iff.1 H).1;have:=ac.out;omega) C H I
      clear HD
      rename World=>W3
      go_wp2;go_loopw [10,11] (fun v u wr=>∃(i:Nat) (L:List NC),i<=B/\u=.int .i64 ((i:Nat):Int)/\L.length<=i/\L.map (·.z)=uO (f.take i)/\NmR W3 wr v L) (fun _ u _=>B-(intOf u).toNat)
      case atStart=>exact⟨0,[],Nat.zero_le _,rfl,Nat.le_refl _,rfl,NmR.nil (Keep.refl _ _)⟩
      case round =>
      obtain⟨i,L,hi,rfl,ff,hL,hR⟩:=hrel;obtain⟨va,vc,rfl⟩:=hR.shape;have HL:=ua hL;have HR:=ua hR;clear hL hR;by_cases R:i<B
      · have hlt':(i:Int)<B:=by omega
        obtain⟨q,A⟩:=a4 i R;obtain⟨b,off,rfl,J⟩:=o.out.rl.at (i:=i) (by have:=ac.out;omega)
        obtain⟨dz,ay,_⟩:=J i q A;obtain⟨qa,qc,q2,bn⟩:=ay.nm;have HI:=ua bn;have kb:=HR.out.keep.bel;have k0:=ue dz kb;have k1:=ue q2 kb;have T:Hid (uO (f.take (i+1))=uO (f.take i)++(if q.car.isSome then [] else [q.name.nm])):=by
          show _=_;rw[List.take_add_one,A];unfold uO;rw[List.filter_append,List.map_append];cases hc:q.car<;>simp[hc]
        clear J dz ay q2 bn kb A;cases ao:q.car.isSome with
        |false =>
          rw[ao]at k0 T;go_wp2_with (at_builtin;refine nmA rfl _ _ rfl rfl rfl (y:=⟨q.name.nm,qa,qc⟩) HR.out (Keep.refl _ _) HI.out (by omega) ?_;intro a5 c5 W5 ey)
          go_roundw
          case rel=>exact⟨i+1,_,R,by go_num,by simp;omega,by rw[T.out,List.map_append,HL.out];rfl,ey.out⟩
          case measure=>simp[intOf];omega
        |true =>
          rw[ao]at k0 T;go_wp2;go_roundw
          case rel=>exact⟨i+1,L,R,by go_num,by omega,by rw[T.out,HL.out];simp,HR.out⟩
          case measure=>simp[intOf];omega
      have hlt':¬(i:Int)<B:=by omega
      have ch:Hid (L.map (·.z)=uO f):=by
        have:=HL.out;rw[List.take_of_length_le (by have:=ac.out;omega)]at this
        exact this
      rename World=>W4
      replace o:=ua (o.out.on HR.out.keep);have cw:=HR.out.read;rw[ch.out]at cw;have aw:Hid (NmsA (fun _=>True) W4 va (uO f)):=cw.wide (fun _ _=>trivial)
      have dr:Hid (∀y∈uO f,BytL y):=fun y hy=>by
        unfold uO at hy;obtain⟨q,A,rfl⟩:=List.mem_map.1 hy;exact (am.out q (List.mem_filter.1 A).1).1.byt
      obtain⟨NN,cx⟩:=nm L.length;have a9:Hid (NN=(uO f).length):=by show NN=_;rw[<-cx,<-ch.out,List.length_map]
      have f2:NN<=8000:=by omega
      rw[cx];clear cx HR HL ch ff cw;go_wp2;go_loopw [12] (fun u wr=>∃i:Nat,i<=B/\u=.int .i64 ((i:Nat):Int)/\Keep (fun _=>False) W4 wr/\∀(a:Nat) q,a<i->f[a]? = some q->∀j:Nat,ue3 f q j) (fun u _=>B-(intOf u).toNat)
      case atStart=>exact⟨0,Nat.zero_le _,rfl,Keep.refl _ _,fun a q h=>by omega⟩
      case round =>
      obtain⟨i,hi,rfl,hK,hF⟩:=hrel;have HK:=ua hK;have HF:=ua hF;clear hK hF;by_cases R:i<B
      · have hlt':(i:Int)<B:=by omega
        obtain⟨q,A⟩:=a4 i R;have HQ:=ua A;obtain⟨b,off,rfl,J⟩:=o.out.rl.at (i:=i) (by have:=ac.out;omega)
        obtain⟨_,_,ba,bc,c5,d9,_⟩:=J i q A;have e9:=ua d9;have fa:=ua (am q (List.mem_of_getElem? A)).2;obtain⟨NB,cv⟩:=nm q.body.tk.length;have bx:=ua cv;have fz:NB<=8000:=by have H:=ubw q.body.tk;have I:=udu (List.mem_of_getElem? A);have:=bh.out;omega
        rw[cv]at c5;have dh:=ua c5;clear J c5 d9 A cv;go_wp2;go_loopw [13] (fun u wr=>∃j:Nat,j<=NB/\u=.int .i64 ((j:Nat):Int)/\Keep (fun _=>False) W4 wr/\∀a:Nat,a<j->ue3 f q a) (fun u _=>NB-(intOf u).toNat)
        case atStart=>exact⟨0,Nat.zero_le _,rfl,HK.out,fun a h=>by omega⟩
        case round =>
          obtain⟨j,hj,rfl,X,cr⟩:=hrel;have ew:=ua X;have dk:=ua cr;have d5:=ue dh.out X.bel;by_cases a0:j<NB
          · have hjl':(j:Int)<NB:=by omega
            obtain⟨x,F⟩:∃x,q.body.tk[j]? = some x:=⟨_,List.getElem?_eq_getElem (by have:=bx.out;omega)⟩
            obtain⟨bb,bo,rfl,J⟩:=e9.out.at (i:=j) (by have:=bx.out;omega)
            have hC:=J j x F;obtain⟨xa,xc,x2,en⟩:=hC.nm;obtain⟨ya,yc,x3,_⟩:=hC.set;have fc:=ua en;have fb:=ua (fa x (List.mem_of_getElem? F)).byt;have e0:=ue hC.kind X.bel;have e1:=ue hC.at_ X.bel;have e2:=ue x2 X.bel;have e3:=ue x3 X.bel;have ex:Hid (∀p,j=p+1->∃y,W4.cell? ⟨bb,bo+p*4,none⟩=some (.int .u8 y)/\uk5 q.body.tk j=(y==94)):=fun p hp=>by
              obtain⟨y,hy⟩:∃y,q.body.tk[p]? = some y:=⟨_,List.getElem?_eq_getElem (by have:=bx.out;omega)⟩
              exact⟨y.kind,(J p y hy).kind,by unfold uk5;rw[if_neg (by omega),hp,Nat.add_sub_cancel,jR hy]⟩
            have T:Hid ((x.kind=110->uk5 q.body.tk j=false->x.nm∈uO f)->∀a,a<j+1->ue3 f q a):=fun h a ha=>by
              by_cases e:a=j
              · subst e;intro x' ej;rw[F]at ej;cases ej;exact h
              · exact dk.out a (by omega)
            have aa:Hid (x.kind=110->uk5 q.body.tk j=false->x.nm ∉ uO f->Bad t):=fun H I h3 _ _ _ k=>by
              have e:=be.out.symm.trans k.rd;injection e with e
              subst e;exact h3 (k.ref q (List.mem_of_getElem? HQ.out) j x F H I)
            obtain⟨r,hr⟩:=nm (x.kind==110&&!uk5 q.body.tk j);have ai:=ua hr;have ek:=ud d5;have ft:=ud e0;clear J hC x2 en x3 hr F cr;go_upto_region 29 with fail
            generalize hV:wr.alloc _=V;have bj:Keep (fun _=>False) W4 V:=hV▸X.trans (Keep.alloc _ _ _)
            have bt:=ua bj;have BT:=ua (hV▸ux wr _ _:Box V wr.heap.size #[.int .u8 x.kind,.int .i64 x.at_,.slice xa x.nm.length xc,.slice ya x.set.length yc]);replace d5:=ue dh.out bj.bel;have gm:w.heap.size<wr.heap.size:=Nat.lt_of_lt_of_le o.out.res.x.2.2 X.size;clear hV e0 e1 e2 e3 ek ft X;have ek:=ud d5;go_cut [15] (fun v wc=>v=.bool r/\wc=V)
            case first =>
              obtain⟨z,p,l⟩:=BT.x;by_cases k1:x.kind=110
              · rw[k1]at z ai
                by_cases j0:j=0
                · subst j0
                  go_wp2;go_meet;exact⟨by rw[<-ai.out];rfl,rfl⟩
                · obtain⟨pj,rfl⟩:∃pj,j=pj+1:=⟨j-1,by omega⟩
                  obtain⟨y,hy,fo⟩:=ex pj rfl;replace hy:=ue hy bj.bel;rw[fo]at ai;have gu:=ud hy;have f8:((pj+1:Nat):Int)-1=(pj:Int):=by omega
                  have ga:(((pj+1:Nat):Int)==0)=false:=by simp;omega
                  have gj:(pj:Int)<(NB:Int):=by omega
                  by_cases y9:y=94
                  · rw[y9]at hy ai
                    go_wp2;go_meet;exact⟨by rw[<-ai.out];rfl,rfl⟩
                  · have yb:(y != 94)=true:=by simpa using y9
                    have HE:Hid (r=true):=by show _=_;rw[<-ai.out];simpa using y9
                    go_wp2;go_meet;exact⟨by rw[HE.out],rfl⟩
              · have kb:(x.kind==110)=false:=by simpa using k1
                have HE:Hid (r=false):=by show _=_;rw[<-ai.out,kb];rfl
                go_wp2;go_meet;exact⟨by rw[HE.out],rfl⟩
            case rest =>
              obtain⟨rfl,hw⟩:=hcut;subst hw;cases r with
              |false =>
                have an:=ua (T.out (fun H I=>by have:=ai.out;rw[H,I]at this;cases this))
                go_wp2;go_roundw
                case rel=>exact⟨j+1,a0,by go_num,bt.out,an.out⟩
                case measure=>simp[intOf];omega
              |true =>
                have b5:x.kind=110/\uk5 q.body.tk j=false:=by have:=ai.out;simpa using this
                have ae:=jQ (fun _=>True) Q1 (uO f) x.nm va xa vc xc _ (aw.out.later bj.bel) (fc.out.later bj.bel) dr.out fb.out (by have:=a9.out;omega)
                rw[<-a9.out]at ae;have d6:=T.out;have cp:=aa.out b5.1 b5.2;obtain⟨z,p,l⟩:=BT.x;by_cases af:x.nm∈uO f
                · obtain⟨k,_,hk⟩:=(ubv x.nm (uO f) 0).1 af
                  rw[hk]at ae;have an:=ua (T.out (fun _ _=>af))
                  have av:=ua ae;have bm:¬((0+k:Nat):Int)<0:=by omega
                  clear af hk ae d6 cp b5;generalize 0+k=k0 at *;go_wp2_with fail;refine av.out.mono ?_;rintro e W ⟨rfl,m,rfl⟩;go_wp2;go_roundw
                  case rel=>exact⟨j+1,a0,by go_num,bt.out.trans (uX _ m),an.out⟩
                  case measure=>simp[intOf];omega
                · rw[(ubv x.nm (uO f) 0).2 af]at ae
                  have HF:=ua (cp af);have av:=ua ae;clear af ae d6 cp b5;go_wp2_with fail;refine av.out.mono ?_;rintro e W ⟨rfl,m,rfl⟩;have b6:=uX wc m;generalize wc.drewN m=V2 at *;obtain⟨z2,p2,l2⟩:=(BT.out.on b6.bel).x;obtain⟨Y,f0,l0⟩:=(o.out.on (bt.out.trans b6)).res.x;unfold zv at Y;have a8:=ua ((o.out.on (bt.out.trans b6)).keep);have ge:¬wr.heap.size=w.heap.size:=by omega
                  have gf:¬w.heap.size=wr.heap.size:=by omega
                  clear z p l b6;go_upto_region 31 with fail
                  go_region;all_goals
                    go_wp2;exact bodyPost_ret (v:=zt 6 x.at_) (by simp[zt,results,Tryz.f5,go_sem, *]) rfl (qJ (by decide) HF (a8.out.trans (uX V2 1)))
          · have hjl':¬(j:Int)<NB:=by omega
            have es:Hid (∀(a:Nat) q,a<i+1->f[a]? = some q->∀j:Nat,ue3 f q j):=fun a q' ha c8 j'=>by
              by_cases e:a=i
              · subst e
                rw[HQ.out]at c8;cases c8
                by_cases hj:j'<j
                · exact dk.out j' hj
                · intro x F
                  have:=(List.getElem?_eq_some_iff.1 F).1;have:=bx.out;omega
              · exact HF.out a q' (by omega) c8 j'
            clear cr X;go_wp2;go_roundw
            case rel=>exact⟨i+1,R,by go_num,ew.out,es.out⟩
            case measure=>simp[intOf];omega
      have hlt':¬(i:Int)<B:=by omega
      have ez:Hid (∀q,q∈f->∀j:Nat,ue3 f q j):=fun q A=>by
        obtain⟨a,ha,rfl⟩:=List.getElem_of_mem A;exact HF.out a _ (by have:=ac.out;omega) (List.getElem?_eq_getElem ha)
      rename World=>W5
      replace o:=ua (o.out.on HK.out);replace aw:=ua (aw.out.later HK.out.bel);clear HK HF;by_cases d4:NN=0
      · have aa:Hid (Bad t):=fun fu E g k=>by
          have e:=be.out.symm.trans k.rd;injection e with e
          subst e;have h:=k.ok.r1;rw[k.eq]at h;have e2:(jd E f).nr=(uO f).length:=by simp[jd,gram,yD,uO]
          rw[e2,<-a9.out]at h;omega
        subst d4;obtain⟨Y,f0,l0⟩:=o.out.res.x;unfold zv at Y;go_wp2;exact bodyPost_ret (v:=zt 6 t.n) (by simp[zt,results,Tryz.f5,go_sem, *]) rfl (qJ (by decide) aa o.out.keep)
      have fy:((NN:Int)==0)=false:=by simp;omega
      have dx:Hid ((f.flatMap Rl.tk).length<=8000):=by have H:=ubw (f.flatMap Rl.tk);have I:=bh.out;show _<=_;omega
      have bu:Hid (∀z∈uB f,BytL z/\z.length<=1000000):=fun z O=>by
        unfold uB at O;obtain⟨q,A,O⟩:=List.mem_flatMap.1 O;have aj:=am.out q A;have em:∀x:Tok,TokF t.n x->BytL x.nm/\x.nm.length<=1000000:=fun x h=>⟨h.byt,by have:=h.len;omega⟩
        unfold xe at O;rcases List.mem_append.1 O with h | h
        · split at h
          · rw[List.mem_singleton.1 h];exact em _ aj.1
          · cases h
        · obtain⟨x,F,rfl⟩:=udA h
          exact em _ (aj.2 x F)
      clear d4;have cu:=ufQ Q1 f ra rc W5 o.out.rl (by have:=dx.out;omega) (fun z O=>(bu.out z O).1) (fun z O=>(bu.out z O).2)
      rw[ac.out]at cu;have dp:=ua cu;clear cu;go_wp2_with fail;refine dp.out.mono ?_;clear dp;rintro e N ⟨la,lc,E,rfl,co,af,az,ct⟩;have b9:=ua co;have bw:=ua af;have cg:=ua az;replace o:=ua (o.out.on ct);replace aw:=ua (aw.out.later ct.bel);have dq:Hid (∀y∈E,BytL y):=fun y hy=>(bu.out y ((af y).1 hy)).1
      have fl:E.length<=8000:=by
        have H:=co.len (m:=uB f) (fun z O=>(af z).1 O)
        have I:=qG f;have h3:=dx.out;omega
      obtain⟨NS,cz⟩:=nm E.length;have ad:=ua cz;rw[cz]at fl ⊢;clear co af az ct cz;go_wp2;obtain⟨wE,eh⟩:∃wE:World,wE.heap.size=0:=⟨{ w with heap:=#[] },rfl⟩
      have dl:=ua (GVo.start N (t:=28) wE eh);have ce:=ua (Keep.alloc (fun _=>False) N (.cells #[.slice none 0 0,.slice none 0 0] 28))
      have bf:Hid ((N.alloc (.cells #[.slice none 0 0,.slice none 0 0] 28)).heap.size=N.heap.size+1):=by show _=_;simp
      clear eh;generalize N.alloc _=W7 at *;go_loopw [18] (uqH NS N.heap.size wE W7 E) (fun u _=>NS-(intOf u).toNat)
      case atStart=>exact⟨0,_,_,[],Nat.zero_le _,rfl,dl.out,rfl,Keep.refl _ _⟩
      case round =>
      obtain⟨i,G,lv,cs,hi,rfl,hG,ap,hK⟩:=hrel;have S:=ua hG;have al:=ua ap;have ab:=ua hK;obtain⟨Z,ak,rfl⟩:=uk hG.v.gr.labs;have a7:Hid (cs.length=i):=by
        have h:=congrArg List.length ap;have:=ad.out;rw[List.length_map,List.length_map,List.length_take]at h;show _=_;omega
      have z1:=hG.v.c1;have f1:=hG.v.f1;have fx:=ud z1;clear hG ap hK dl;by_cases R:i<NS
      · have hlt':(i:Int)<NS:=by omega
        obtain⟨z,O⟩:∃z,E[i]? = some z:=⟨_,List.getElem?_eq_getElem (by have:=ad.out;omega)⟩
        have HZ:=ua O;obtain⟨lb,lo,rfl,J⟩:=cg.out.at (i:=i) (by have:=ad.out;omega)
        obtain⟨za,zc,Y,hI⟩:=J i z O;have fj:=ud Y;have U:=ce.out.bel.trans (ab.out.below (by have:=bf.out;omega) (fun k hk e=>by have e:k=N.heap.size:=e;omega))
        have c0':=ue Y U;have gp:=ud c0';have gc:¬lb=N.heap.size:=by have:lb<N.heap.size:=fj;omega
        have HI:Hid (Ints (Tg G wr 2) .u8 wr za z.length (lf z)):=(hI.later U).wide (fun b C=>⟨by have:=U.size;omega,S.out.old b C⟩)
        clear J Y hI O U;go_upto_region 39 with fail
        go_region_law
          (obtain⟨G2,hO,hF⟩:=upm S.out HI.out HZ.out R al.out bf.out ab.out (zc:=zc) rfl
           refine ubi rfl (.tmp 175) (.tmp 181) 26 26 rfl (v:=.slice Z cs.length ak) (y:=.slice (some ⟨wr.drew.heap.size,0,none⟩) 1 1) (by simp[Act.eval,Act.put]) (by simp[Act.eval,Act.put]) urx hO (ukX (x:=⟨⟨z,false,[]⟩,za,zc,none,0⟩) (World.alloc_heap_new wr.drew _)) (by have:=a7.out;omega) ?_
           intro v6 W8 aq bl db;obtain⟨a6,c6,rfl⟩:=uk aq;obtain⟨hE,y1,y2⟩:=hF _ _ aq bl;have HE:=ua hE;clear aq bl db hE hF hO)
        all_goals go_goals
        all_goals
          go_wp2;go_roundw;all_goals first
            |exact HE.out
            | (simp[intOf];omega)
            |omega
      have hlt':¬(i:Int)<NS:=by omega
      have dw:Hid (ujT B N.heap.size wE W7 (uO f) E f (.int .i64 0) wr):=by
        have h:=al.out;rw[List.take_of_length_le (by have:=ad.out;omega)]at h
        exact⟨0,G,_,_,[],cs,Nat.zero_le _,rfl,S.out,rfl,h,ab.out⟩
      clear al S ab z1 f1 fx a7;go_wp2;go_loopw [19] (ujT B N.heap.size wE W7 (uO f) E f) (fun u _=>B-(intOf u).toNat)
      case atStart=>exact dw.out
      case round =>
      obtain⟨i,G,rv,lv,rs,cs,hi,rfl,hG,da,ap,hK⟩:=hrel;obtain⟨Z,ak,rfl⟩:=uk hG.v.gr.labs;obtain⟨ah,au,rfl⟩:=uk hG.v.gr.rules;have S:=ua hG;have ci:=ua da;have al:=ua ap;have ab:=ua hK;have a7:Hid (cs.length=NS):=by
        have h:=congrArg List.length ap;unfold yN at h;rw[List.length_map,List.length_map]at h;exact h.trans ad.out
      have gk:rs.length<=i:=by
        have h:=congrArg List.length da;unfold yD at h;rw[List.length_map,List.length_map]at h;have I:=List.length_filter_le (fun q:Rl=>!q.car.isSome) (f.take i)
        rw[List.length_take]at I;omega
      have U:=ce.out.bel.trans (hK.below (by have:=bf.out;omega) (fun k hk e=>by have e:k=N.heap.size:=e;omega))
      have de:=ua U;clear hG da ap hK dw;by_cases R:i<B
      · have hlt':(i:Int)<B:=by omega
        obtain⟨q,A⟩:=a4 i R;have HQ:=ua A;have a1:=List.mem_of_getElem? A;obtain⟨b,off,rfl,J⟩:=o.out.rl.at (i:=i) (by have:=ac.out;omega)
        obtain⟨H,I,ba,bc,h3,h4,h5⟩:=J i q A;obtain⟨qa,qc,q2,bn⟩:=I.nm;have k0:=ue H U;have k1:=ue q2 U;have k5:=ue h3 U;have ds:=ua (bn.later U);have b3:=ua (am q a1).1;have aj:=(am q a1).2;have fq:=Nat.le_trans (udu a1) bh.out;have fn:=(um1 (uO f) E q.body).2 (b2.out q a1).2.2.2.1;have hN:Nms (fun _=>True) wr va la (uO f) E:=⟨aw.out.later U,(cg.out.later U).wide (fun _ _=>trivial),dr.out,dq.out,by have:=a9.out;omega,by have:=ad.out;omega⟩
        have fk:=ubw q.body.tk;have C:=(ukU (fun _=>True) va la vc lc (uO f) E wr hN q.body (fun x F=>(aj x F).ok (by omega)) (by omega) ⟨by omega,um2 _ _ _ 1048576 (by omega) (fun x F=>((aj x F).ok (by omega)).2.2)⟩).2.1 (b2.out q a1).2.2.2.1 ba bc wr (Keep.refl _ _) ((h4.later U).wide (fun _ _=>trivial)) h5
        obtain⟨D,hD⟩:=nm (q.body.ops (uO f) E);rw[<-a9.out,ad.out,hD]at C;have aa:=ua C;have di:=ua hD;have gg:q.name.nm.length<=1000000:=by have:=b3.out.len;omega
        clear J H I h3 h4 h5 q2 bn A C hD hN aj fn fq fk U;go_wp2_with fail;refine aa.out.mono ?_;clear aa;rintro e W8 ⟨cm,cn,rfl,ed,ag⟩;have dg:=ua ed;have cf:=ua ag;have j0:=ue k0 ag.bel;have j1:=ue k1 ag.bel;clear k0 k1 k5 ed;cases ao:q.car with
        |some cc =>
          have HC:Hid (q.car.isSome=true):=by rw[ao];rfl
          rw[HC.out]at j0;have d3:q.name.nm∈E:=(bw.out _).2 (by
            unfold uB;refine List.mem_flatMap.2 ⟨q,a1,?_⟩;unfold xe;rw[HC.out];simp)
          obtain⟨k,bm,ee⟩:=(ubv q.name.nm E 0).1 d3;have ae:=jQ (fun b=>b<N.heap.size) Q1 E q.name.nm la qa lc qc W8 ((cg.out.later de).later ag.bel) (ds.out.later ag.bel) dq.out b3.out.byt (by have:=ad.out;omega)
          rw[ee,Nat.zero_add,ad.out]at ae;have av:=ua ae;have gb:k<NS:=by have:=(List.getElem?_eq_some_iff.1 bm).1;have:=ad.out;omega
          have hkN':(k:Int)<NS:=by omega
          obtain⟨x,F⟩:∃x,cs[k]? = some x:=⟨_,List.getElem?_eq_getElem (by have:=a7.out;omega)⟩
          have ec:x.d.nm=q.name.nm:=by
            have h:(cs.map (·.d))[k]? = some x.d:=by rw[List.getElem?_map,F];rfl
            rw[al.out]at h;unfold yN at h;rw[List.getElem?_map,bm]at h;injection h with h
            rw[<-h];exact udt _ _ _ _
          have du:Hid (∀V,Keep (fun _=>False) W8 V->∃g c,(.slice Z cs.length ak:Value)=.slice (some ⟨g,0,none⟩) cs.length c/\N.heap.size≠g/\V.cell? ⟨g,k*3+1,none⟩=some (.bool x.d.has)/\V.frozen? ⟨g,k*3+1,none⟩=false/\V.cell? ⟨g,k*3+2,none⟩=some (.slice x.ba x.d.bd.length x.bc)/\V.frozen? ⟨g,k*3+2,none⟩=false /\
              ujT B N.heap.size wE W7 (uO f) E f (.int .i64 ((i:Int)+1)) ((V.setCell ⟨g,k*3+1,none⟩ (.bool true)).setCell ⟨g,k*3+2,none⟩ (.slice cm D.length cn))):=fun V kV=>by
            obtain⟨g,c,e1,e2,e3,e4,e5,e6,⟨G',fe⟩,e8⟩:=S.out.recover (cf.out.trans kV) (D:=D) (ba:=cm) (bc:=cn) ((dg.out.on (fun b C=>kV.block b C.2 (fun q=>q))).wide (fun b C=>⟨C.1,Nat.lt_of_lt_of_le C.2 kV.size⟩)) F
            refine⟨g,c,e1,e2,e3,e4,e5,e6,i+1,G',_,_,rs,_,R,by simp,fe,?_,?_,e8 W7 bf.out ab.out⟩
            · rw[List.take_add_one,HQ.out]
              show _=yD _ _ (_++[q]);rw[ubs,ci.out,HC.out];simp
            · rw[List.take_add_one,HQ.out]
              show _=yN _ _ (_++[q]);rw[uiu b9.out bm HC.out (fun s hs=>by
                obtain⟨b,C,rfl⟩:=List.getElem_of_mem hs;rw[List.length_take]at C;rw[List.getElem_take];exact dj.out i b q _ (by omega) HQ.out (List.getElem?_eq_getElem (by omega))),List.map_set,al.out,ec,di.out]
          have z1:=(S.out.later ag 3).v.c1;have f7:(k:Int)<(cs.length:Int):=by have:=a7.out;omega
          clear bm ee F d3 ae ec ag;go_wp2_with fail;refine av.out.mono ?_;rintro e W ⟨rfl,m,rfl⟩;have kV:=uX W8 m;replace z1:=ue z1 kV.bel;replace j0:=ue j0 kV.bel;replace j1:=ue j1 kV.bel;obtain⟨g,c9,e1,e2,e3,e4,e5,e6,e7⟩:=du.out _ kV;have HE:=ua e7;obtain rfl:Z=some ⟨g,0,none⟩:=by injection e1
          have e2':¬g=N.heap.size:=fun q=>e2 q.symm
          clear e7 e1 du av kV;generalize W8.drewN m=V8 at *;go_wp2;go_roundw;all_goals first
            |exact HE.out
            | (simp[intOf];omega)
        |none =>
          rw[ao]at j0;simp only[Option.isSome_none]at j0;have z0:=(S.out.later ag 3).v.c0;have gx:=ud z0;have gn:=ud j1;have ev:=ua ((ds.out.later ag.bel).later (Keep.drew (fun _=>False) W8).bel)
          have eo:=ua ao;have gl:rs.length<=8000:=by omega
          clear ag ao;go_upto_region 48 with fail
          go_region_law (first
            | (refine utk rfl (.tmp 224) (.tmp 230) rfl (W:=W8.drew) (ya:=qa) (yc:=qc) (z:=q.name.nm) rfl (by simp[Act.eval,Act.put]) (by simp[Act.eval,Act.put]) ev.out (by omega) ?_
               intro a3 c3 W3 eu dm;have z3:=(S.out.later ((cf.out.trans (Keep.drew _ _)).trans dm.out) 3).v.c0;have gy:=ud z3)
            | (obtain⟨G2,hO,hF⟩:=upn S.out ci.out al.out bf.out ab.out HQ.out R eo.out di.out cf.out dg.out eu.out dm.out (c3:=c3) rfl
               refine ubi rfl (.tmp 223) (.tmp 234) 25 25 rfl (v:=.slice ah rs.length au) (y:=.slice (some ⟨W3.heap.size,0,none⟩) 1 1) (by simp[Act.eval,Act.put]) (by simp[Act.eval,Act.put]) ulR hO (umO (x:=⟨⟨q.name.nm,true,D⟩,a3,c3,cm,cn⟩) (World.alloc_heap_new W3 _)) (by omega) ?_
               intro v6 W9 aq bl db;obtain⟨a6,c6,rfl⟩:=uk aq;obtain⟨hE,y1,y2⟩:=hF _ _ aq bl;have HE:=ua hE;clear aq bl db hE hF hO))
          all_goals go_goals
          all_goals
            go_wp2;go_roundw;all_goals first
              |exact HE.out
              | (simp[intOf];omega)
              |omega
      have hlt':¬(i:Int)<B:=by omega
      have cb:Hid (gram (rs.map (·.d)) (cs.map (·.d))=jd E f):=by
        have H:=ci.out;have I:=al.out;rw[List.take_of_length_le (by have:=ac.out;omega)]at H I
        show _=_;rw[H,I];rfl
      obtain⟨fw,gw,fs,gs,er,el,d2⟩:=S.out.v.gr.gram;have d1:GramA (Of wr) wr ah Z (jd E f):=by
        have h:=d2.plain;rw[cb.out]at h;obtain rfl:ah=fw:=by injection er
        obtain rfl:Z=fs:=by injection el
        exact⟨h.rules.wide (fun b C=>C.2),h.labs.wide (fun b C=>C.2)⟩
      have b0:Hid ((jd E f).nr=rs.length/\(jd E f).nb=cs.length):=by
        rw[<-cb.out];exact⟨by show (rs.map (·.d)).length=_;rw[List.length_map],by show (cs.map (·.d)).length=_;rw[List.length_map]⟩
      have z0:=S.out.v.c0;have z1:=S.out.v.c1;have fp:=o.out.res.x.2.2;have k7:=o.out.keep.trans ce.out;have dn:Hid (Keep (fun _=>False) w wr):=by
        have gd:w.heap.size<=N.heap.size:=o.out.keep.size;exact⟨ab.out.os.trans k7.os,ab.out.tape.trans k7.tape,ab.out.output.trans k7.output,Nat.le_trans k7.size ab.out.size,fun b C hn=>(ab.out.block b (by have:=k7.size;omega) (by show ¬b=_;omega)).trans (k7.block b C hn)⟩
      have c4:=jZ (Of wr) ah Z au ak (jd E f) wr d1 (ufO b2.out bh.out am.out ef (by have:=ac.out;omega) (by have:=ad.out;omega) (fun z O=>bu.out z ((bw.out z).1 O)))
      rw[b0.out.1,b0.out.2]at c4;have dy:=ua c4;clear d2 er el d1 c4 k7;go_wp2_with fail;refine dy.out.mono ?_;clear dy;rintro e W9 ⟨⟨r,rfl,hr⟩,bi⟩;have dt:=ua ((o.out.res.on de.out).on bi);obtain⟨Y,f0,l0⟩:=dt.out.x;unfold zv at Y;have y0:=ue z0 bi;have y1:=ue z1 bi;have a8:Hid (Keep (fun _=>False) wr W9):=Keep.of_below bi (fun k hk _=>hk)
      clear bi z0 z1;cases r with
      |false =>
        have aa:Hid (Bad t):=fun fu gt g k=>by
          have e:=be.out.symm.trans k.rd;injection e with e
          subst e;have h:=k.ok;rw[k.eq,ufY k.asc b9.out (fun z=>(k.labs z).trans (bw.out z).symm)]at h
          exact absurd (hr.2 h) (by decide)
        clear hr;go_wp2;exact bodyPost_ret (v:=zt 7 0) (by simp[zt,results,Tryz.f5,go_sem, *]) rfl (qJ (by decide) aa (dn.out.trans a8.out))
      |true =>
        have HV:=ua (hr.1 rfl);have et:Hid (qI t w (.returned (.tuple #[.agg #[.slice ah rs.length au,.slice Z cs.length ak],.int .i64 0,.int .i64 0])) ((W9.setCell ⟨w.heap.size,0,none⟩ (.slice ah rs.length au)).setCell ⟨w.heap.size,1,none⟩ (.slice Z cs.length ak))):=by
          refine⟨0,0,jd E f,ah,au,Z,ak,.inl ⟨rfl,f,E,ef,be.out,fun i j q s h=>dj.out i j q s h,ez.out,b9.out,bw.out,rfl,HV.out⟩,by rw[b0.out.1,b0.out.2],?_,uai (uai (dn.out.trans a8.out) (Nat.le_refl _)) (Nat.le_refl _)⟩
          obtain⟨tt,fh⟩:=dt.out;obtain⟨fv,gv,fr,gq,er,el,hX⟩:=S.out.answer (u:=.slice ah rs.length au) (v:=.slice Z cs.length ak) a8.out fh fp;rw[cb.out]at hX;obtain rfl:ah=fv:=by injection er
          obtain rfl:Z=fr:=by injection el
          exact hX
        clear hr;go_wp2;exact bodyPost_ret (v:=.tuple #[.agg #[.slice ah rs.length au,.slice Z cs.length ak],.int .i64 0,.int .i64 0]) (by simp[results,Tryz.f5,go_sem, *]) rfl et.out
end Go.Proofs.YtimfigongapdnaaGreat
