import Derived.Test.YtimfigongapdnaaGreatT46
import Derived.Test.YtimfigongapdnaaGreatT25
set_option linter.unusedVariables false
set_option linter.unusedSimpArgs false
set_option maxHeartbeats 40000000
set_option maxRecDepth 100000
namespace Go.Proofs.YtimfigongapdnaaGreat
open Go.RowKit
open M (OpD ug Gr ur)
theorem uqk args w:(callFunc 93 args).run Tryz.prog w=.ok (.enter 93 args) w:=by
 simp[callFunc,Tryz.func93,Tryz.f93,go_sem]
theorem uok{Q w v x a l n m cs news t j e}ty(f:vG t e a l)(i:OwnC Q w v a n cs)(d:Src Tryz.prog a j x m news w)(s:n+m<=16777216) :
  ∃k w',(Builtin.append_ #[t,j] ty #[v,x]).run Tryz.prog w=.ok k w'/\OwnC (λb=>Q b\/w.heap.size<=b) w' k a (n+m) (cs++news)/\Grew (λb=>Q b) w w'/\w'.heap.size<=w.heap.size+1:=by
 by_cases c:v=.slice none 0 0->0<m
 ·exact ym ty f i d s c
 have u:v=.slice none 0 0:=Classical.byContradiction (λh=>c (λq=>absurd q h));obtain rfl:m=0:=by
  by_cases h:m=0
  ·exact h
  exact absurd (λ_=>by omega) c
 have z:=d.newsLen;obtain rfl:news = []:=List.eq_nil_of_length_eq_zero (by omega);subst u;have p:n=0/\cs = []:=by
  rcases i with⟨_,h,o⟩|⟨g,cap,h,_⟩
  ·exact⟨h,o⟩
  cases h
 obtain⟨rfl,rfl⟩:=p;exact⟨_,_,ubf ty f d,.inl ⟨rfl,rfl,rfl⟩,⟨rfl,rfl,rfl,Nat.le_refl _,λ_ _ _=>rfl,λ_ _ _=>rfl,λ_ _ y r=>absurd r (by omega)⟩,by omega⟩
theorem uty{ops:Array Oper}{rest:List Oper}{o:Oper}{a:Act}{f:Exit->Act->World->Prop}{w:World}(r:o.guard=none)(s x:Operand)(t g:TypeId)(z:o.op=.call { callee:=.builtin .append,args:=#[s,x],argTypes:=#[t,g] })
  {Q:Nat->Prop} {v y:Value} {e:TypeId} {c i n m:Nat} {cs news:List Value} (C:a.eval s=v) (E:a.eval x=y) (p:vG t e c i) (A:OwnC Q w v c n cs) (D:Src Tryz.prog c g y m news w) (u:n+m<=16777216)
  (h:∀d w',OwnC (λb=>Q b\/w.heap.size<=b) w' d c (n+m) (cs++news)->Grew (λb=>Q b) w w'->w'.heap.size<=w.heap.size+1->wpList Tryz.prog ops f rest (a.put o.dst d) w'):wpList Tryz.prog ops f (o::rest) a w:=by
 refine wpList_plain r λK q=>?_
 obtain⟨d,w',B,j,k,l⟩:=uok o.type p A D u;unfold Oper.wp execOp;simp only[z,resolve,invoke,builtin,Sem.run_bind,Sem.run_pure,Result.andThen_ok,List.map_toArray,List.map_cons,List.map_nil,C,E,B];exact q _ _ (h d w' j k l)
theorem Grew.bel{w w'}(h:Grew (λ_=>False) w w'):Below w.heap.size w w':=⟨h.os,h.tape,h.output,h.size,λb a=>h.block b a (λe=>e)⟩
theorem ui8 l:∀u,u∈vA l->u.oneCell'=true:=λu b=>by
 obtain⟨e,_,a⟩:=List.mem_flatMap.1 b;simp[evv]at a;rcases a with rfl|rfl|rfl<;>rfl
theorem uql{L w a c l}(h:OwnC L w (.slice a l.length c) 3 l.length (vA l)):Src Tryz.prog 3 37 (.slice a l.length c) l.length (vA l) w:=by
 rcases h with⟨e,f,i⟩|⟨g,cap,e,p,k,n,m,o⟩
 ·obtain rfl:a=none:=by injection e
  rw[f,i];exact Src.ofNil _ Tryz.underlying37 c
 obtain rfl:a=some ⟨g,0,none⟩:=by injection e
 refine Src.ofSlice (P:=Tryz.prog) _ Tryz.underlying37 ⟨g,0,none⟩ _ c (vA l) k (λj u d=>?_) (ui8 l);have e':(⟨g,0,none⟩:Addr).add j=⟨g,j,none⟩:=by
  by_cases b:j=0
  ·subst b;simp[Addr.add]
  simp[Addr.add,b]
 rw[e',m j (List.getElem?_eq_some_iff.1 d).1];exact d
theorem uol Q Q' a n c R ia il ic I fuel most w(C:InsA Q w a n R)(hR:ukk n R fuel most)(hn:n<=1048576)(hI:Ints Q' .u8 w ia il I)(hB:Byt il I)(a7:il<=1048576) :
  Calls Tryz.prog 53 #[.slice a n c,.slice ia il ic,.int .i64 fuel,.int .i64 most] w (uqP w):=by
 have HA:=ua C;have ah:=ua hR.sets;have HI:=ua hI;have av:=ua hB;obtain⟨f0,f1,m0,m1,_⟩:=hR;have bj:decide (fuel<0)=false:=by simp;omega
 have bk:decide (50000<fuel)=false:=by simp;omega
 have bl:decide (most<0)=false:=by simp;omega
 have bm:decide (1000<most)=false:=by simp;omega
 have BR:=ua (ux w #[.int .i64 0,.int .i64 0,.int .i64 0,.int .i64 0,.slice none 0 0,.int .i64 0,.int .i64 0,.slice none 0 0] 39);have ag:=ua (ui w (.cells #[.int .i64 0,.int .i64 0,.int .i64 0,.int .i64 0,.slice none 0 0,.int .i64 0,.int .i64 0,.slice none 0 0] 39));have a0:=ua (World.alloc_heap_new w (.cells #[.int .i64 0,.int .i64 0,.int .i64 0,.int .i64 0,.slice none 0 0,.int .i64 0,.int .i64 0,.slice none 0 0] 39));have ai:Hid ((w.alloc (.cells #[.int .i64 0,.int .i64 0,.int .i64 0,.int .i64 0,.slice none 0 0,.int .i64 0,.int .i64 0,.slice none 0 0] 39)).heap.size=w.heap.size+1):=by show _=_;simp
 clear C hI hB;go_enter Tryz.func53,Tryz.ntmps53;go_upto_region 4 with fail;generalize w.alloc _=X at *;go_loopw [9] (λiv wr=>∃k:Nat,k<=n/\iv=.int .i64 (k:Int)/\wr=X) (λiv _=>n-(intOf iv).toNat)
 case atStart=>exact⟨0,Nat.zero_le _,rfl,rfl⟩
 case round =>
  obtain⟨k,hk,rfl,hw⟩:=hrel;subst hw;by_cases ap:k<n
  ·rcases HA.out.later ag.out with h0|⟨b,off,rfl,hq,C⟩
   ·omega
   obtain⟨S,c1,c2,sa,sc,c3,hs⟩:=C k ap;have lb:=ud S;have hlt':(k:Int)<(n:Int):=(by omega);have bt:=ah.out k ap;generalize (R k).sl=sl at *;have hbig':¬(512:Int)<(sl:Int):=(by omega);clear C hs;go_wp2;go_roundw
   case rel=>exact⟨k+1,by omega,by go_num,trivial⟩
   case measure=>simp[intOf];omega
  obtain rfl:k=n:=by omega
  go_wp2;rw[ai.out];go_loopw [41] (λpv wr=>ruI w k R il I fuel most wr) (λpv wr=>2*(fuel.toNat-ugi wr (w.heap.size+1))+ugj wr (w.heap.size+1))
  case atStart =>
   have bz:=ai.out;exact⟨s0,none,0,none,0,none,0,0,λ_=>False,λ_=>False,λ_=>False,yK wr _ _ (by omega),uaa a0.out _,⟨.inl ⟨rfl,rfl,rfl⟩,.inl ⟨rfl,rfl,rfl⟩,⟨by omega,λ_=>0,.inl rfl⟩,λb q=>(q.elim id (λq=>q.elim id id)).elim,λ_ q=>q.elim,λ_ q=>q.elim,λ_ q=>q.elim⟩,λb q=>(q.elim id (λq=>q.elim id id)).elim,⟨m0,Nat.le_refl _,λf hf=>by simp[s0]at hf,List.Pairwise.nil,λf hf=>by simp[s0]at hf⟩,f0,Nat.le_refl _,uf ag.out (ui _ _)⟩
  case round =>
   obtain⟨s,ka,kc,la,lc,l,m,u,K,L,X,h⟩:=hrel;have d:=ua h;have BX:Hid (Box wr (w.heap.size+1) (qV s ka kc la lc l m u)):=⟨155,h.box⟩;replace BR:Hid (Box wr w.heap.size #[.int .i64 0,.int .i64 0,.int .i64 0,.int .i64 0,.slice none 0 0,.int .i64 0,.int .i64 0,.slice none 0 0]):=⟨39,h.res⟩;have bu:=h.st;obtain⟨z,p,lz⟩:=BX.x;unfold qV at z;cases hd:s.done with
   |false =>
    have D:=ua hd;rw[hd]at z;have af:Hid (∀E:Int,s.next k R il I fuel most=s.fin E->Calls Tryz.prog 92 #[stV s ka kc la lc l m u,.int .i64 E] wr (λe W=>e=.returned (stV (s.fin E) ka kc la lc l m u)/\Hid (W.heap[w.heap.size+1]?=some (.cells (qV s ka kc la lc l m u) 155))/\Hid (∀i,Only (λb=>b=w.heap.size+1) W i->i.heap[w.heap.size+1]?=some (.cells (qV (s.fin E) ka kc la lc l m u) 155)->ruI w k R il I fuel most i/\2*(fuel.toNat-ugi i (w.heap.size+1))+ugj i (w.heap.size+1)<2*(fuel.toNat-ugi wr (w.heap.size+1))+ugj wr (w.heap.size+1)))):=λE a8 =>
     (uav s ka la l kc lc m u E wr).mono (λe W q=>⟨q.1,(q.2.block _ BX.x.2.2).trans d.box,λi F G=>ukn d D a8 (Only.refl _ wr) (Kept.of q.2) F ((d.a.on (λb g=>q.2.block b (d.a.lt b g)) q.2.size).same rfl rfl) (λb g=>.inl g) (λb g=>.inl g) (λb g=>.inl g) G d.thr⟩)
    obtain⟨O,a6⟩:=nm (decide (s.at_<0\/(k:Int)<=s.at_));have J:=ua a6;go_upto_region 10 with fail;go_cut [53] (λv wc=>v=.bool O/\wc=wr)
    case first =>
     by_cases ha:s.at_<0
     ·have N:Hid (true=O):=(by show _=_;rw[<-J.out];simp[ha]);go_wp2;go_meet;exact⟨by rw[<-N.out],rfl⟩
     by_cases g:(k:Int)<=s.at_
     ·have N:Hid (true=O):=(by show _=_;rw[<-J.out];simp[g]);go_wp2;go_meet;exact⟨by rw[<-N.out],rfl⟩
     have N:Hid (false=O):=(by show _=_;rw[<-J.out];simp[ha,g]);go_wp2;go_meet;exact⟨by rw[<-N.out],rfl⟩
    case rest =>
     obtain⟨rfl,hw⟩:=hcut;subst hw;cases O with
     |true =>
      have r:=af 4 (by unfold MSt.next;rw[if_pos (of_decide_eq_true J.out)]);obtain⟨t,A⟩:=nm (s.fin 4);rw[A]at r;unfold stV at r;rw[D.out]at r;have HC:=ua r;go_wp2_with fail;refine HC.mono ?_;rintro e W ⟨rfl,B,y⟩;obtain⟨z2,p2,be⟩:=Box.x ⟨155,B⟩;unfold qV at z2;go_wp2;go_roundw
      case rel=>exact(y _ (yH _ _ _ _ _ _ _ _ _ _ _ _ _) (xq _ _ _ _ _ _ _ _ _ _ _ B)).1
      case measure=>exact(y _ (yH _ _ _ _ _ _ _ _ _ _ _ _ _) (xq _ _ _ _ _ _ _ _ _ _ _ B)).2
     |false =>
      have ac:=of_decide_eq_false J;by_cases T:(s.steps:Int)=fuel
      ·have a2:((s.steps:Int)==fuel)=true:=(by simpa using T);have r:=af 3 (by unfold MSt.next;rw[if_neg ac,if_pos T]);obtain⟨t,A⟩:=nm (s.fin 3);rw[A]at r;unfold stV at r;rw[D.out]at r;have HC:=ua r;clear r A T ac;go_wp2_with fail;refine HC.mono ?_;rintro e W ⟨rfl,B,y⟩;obtain⟨z2,p2,be⟩:=Box.x ⟨155,B⟩;unfold qV at z2;go_wp2;go_roundw
       case rel=>exact(y _ (yH _ _ _ _ _ _ _ _ _ _ _ _ _) (xq _ _ _ _ _ _ _ _ _ _ _ B)).1
       case measure=>exact(y _ (yH _ _ _ _ _ _ _ _ _ _ _ _ _) (xq _ _ _ _ _ _ _ _ _ _ _ B)).2
      have a2:((s.steps:Int)==fuel)=false:=(by simpa using T);obtain⟨q,hq⟩:∃q:Nat,s.at_=(q:Int):=⟨s.at_.toNat,by omega⟩;have aq:q<k:=(by omega);rcases HA.out with h0|⟨b,off,rfl,br,C⟩
      ·omega
      obtain⟨S,c1,c2,sa,sc,c3,hs⟩:=C q aq;have b3:=ud S;have bw:=d.bel.size;obtain⟨t,A⟩:=nm (({ s with steps:=s.steps+1 }:MSt).act (R q) il I most);have ay:Hid (s.next k R il I fuel most=t):=(by show _=_;unfold MSt.next;rw[if_neg ac,if_neg T,show s.at_.toNat=q by omega];exact A);have a3:Hid (t.throws<=t.steps):=by
       have F:=ud1 (most:=most) (s:={ s with steps:=s.steps+1 }) (R q) il I;have G:=ucc (most:=most) (s:={ s with steps:=s.steps+1 }) (R q) il I;rw[A]at F G;have h3:=d.thr;have h4:t.throws<=s.throws+1:=F;have h5:t.steps=s.steps+1:=G;show t.throws<=t.steps;omega
      have hZ:Only (λb=>b=w.heap.size+1) wc (wc.setCell ⟨w.heap.size+1,6,none⟩ (.int .i64 ((s.steps:Int)+1))):=Only.set (P:=λb=>b=w.heap.size+1) (Only.refl _ wc) (w.heap.size+1) 6 _ rfl;have Z:=ua (vP (j:=6) (.int .i64 ((s.steps:Int)+1)) d.box);unfold qV at Z;simp only[List.setIfInBounds_toArray,List.set_cons_zero,List.set_cons_succ,D.out,hq]at Z;have H:Below w.heap.size w (wc.setCell ⟨w.heap.size+1,6,none⟩ (.int .i64 ((s.steps:Int)+1))):=uK d.out.bel _ _ _ (by omega);replace S:=ue S H;replace c1:=ue c1 H;replace c2:=ue c2 H;replace c3:=ue c3 H;have az:Hid (us5 K L X (wc.setCell ⟨w.heap.size+1,6,none⟩ (.int .i64 ((s.steps:Int)+1))).drew { s with steps:=s.steps+1 } ka kc la lc l m):=by
       have hg:=d.good;have bn:=hg.logs;have bp:=hg.len;have bx:=d.thr;exact⟨SpA.same (s:=s) (d.a.on (w':=(wc.setCell ⟨w.heap.size+1,6,none⟩ (.int .i64 ((s.steps:Int)+1))).drew) (λb g=>hZ.block b (λe=>by have:=d.lo b g;omega)) (by show _<=(wc.setCell _ _).heap.size;rw[uj];exact Nat.le_refl _)) rfl rfl,by show s.st.length<=1000;omega,by show s.log.length<=1048576;omega,hg.last,by show 0<=s.at_;omega,by show s.at_<=1048576;omega,by show s.throws<=1048576;omega⟩
      have aa:=uof K L X Q Q' { s with steps:=s.steps+1 } ka la l kc lc m u (R q) sa sc ia il ic I most _ az (hs.later H.drew) (HI.later H.drew) av (Nat.le_trans (ah q aq) (by omega)) a7;rw[A]at aa;unfold stV at aa;simp only[hq,D.out,Int.natCast_add,Int.natCast_one]at aa;have aw:=ua aa;have a1:=ua hZ.drew;have bq:(q:Int)<(k:Int):=(by omega);rw[hq]at z;have bs:(s.steps:Int)<=50000:=(by omega);go_wp2;generalize wc.setCell ⟨w.heap.size+1,6,none⟩ (.int .i64 ((s.steps:Int)+1))=Y at *;obtain⟨zy,py,bf⟩:=Box.x ⟨155,Z⟩;generalize R q=x at *;go_region_law (refine ulE uqk rfl (.tmp 66) (.tmp 71) (.tmp 72) (.tmp 73) 155 86 22 3 rfl (y1:=.agg #[.int .i64 (q:Int),.int .i64 (s.pos:Int),.slice ka s.st.length kc,.slice la s.log.length lc,.int .i64 (s.far:Int),.slice l m u,.int .i64 ((s.steps:Int)+1),.int .i64 (s.throws:Int),.bool false,.int .i64 s.code,.int .i64 s.label]) (y2:=.agg #[.int .i64 x.kind,.int .i64 x.arg,.int .i64 x.to,.slice sa x.sl sc]) (y3:=.slice ia il ic) (y4:=.int .i64 most) (by simp[Act.eval]) (by simp[Act.eval]) (by simp[Act.eval]) (by simp[Act.eval]) (aw.mono ?_);rintro e W ⟨ba,bb,bc,bd,bg,bi,bh,K2,L2,X2,rfl,aj,ak,am,an,ad⟩;have V:=ua ((ad.block _ bf (λq=>by have:=d.lo _ (q.elim .inl (λq=>.inr (.inl q)));omega)).trans Z);have y:Hid (∀i,Only (λb=>b=w.heap.size+1) W i->i.heap[w.heap.size+1]?=some (.cells (qV t ba bb bc bd bg bi bh) 155)->ruI w k R il I fuel most i/\2*(fuel.toNat-ugi i (w.heap.size+1))+ugj i (w.heap.size+1)<2*(fuel.toNat-ugi wc (w.heap.size+1))+ugj wc (w.heap.size+1)):=λi F G=>ukn d D ay a1 ad F aj ak am an G a3;obtain⟨zw,pw,b5⟩:=Box.x ⟨155,V⟩;clear aj ak am an ad;unfold stV;refine⟨_,rfl,?_⟩);all_goals go_wp2
      all_goals go_roundw
      all_goals first
       |exact(y _ (yH _ _ _ _ _ _ _ _ _ _ _ _ _) (xq _ _ _ _ _ _ _ _ _ _ _ V)).2
       |exact(y _ (yH _ _ _ _ _ _ _ _ _ _ _ _ _) (xq _ _ _ _ _ _ _ _ _ _ _ V)).1
       |((repeat apply Exists.intro);exact⟨(y _ (yH _ _ _ _ _ _ _ _ _ _ _ _ _) (xq _ _ _ _ _ _ _ _ _ _ _ V)).1,rfl⟩)
   |true =>
    rw[hd]at z;have ab:=ua d.bel;have bo:s.log.length<=1048576:=(by have:=d.good.logs;omega);have ax:Hid (∀o,Src Tryz.prog 3 37 (.slice la s.log.length lc) s.log.length (vA s.log) (wr.alloc o)):=λo=>uql (d.a.log.on (λb g=>(ui wr o).block b (d.a.lt b (.inr (.inl g)))))
    obtain⟨x0,g0,lx⟩:=BR.x;have a5:(s.code==4)=true\/(s.code==4)=false/\(s.code==3)=true\/(s.code==4)=false/\(s.code==3)=false:=by cases s.code==4<;>cases s.code==3<;>simp
    rcases a5 with e4|⟨e4,e3⟩|⟨e4,e3⟩
    iterate 2
     focus
      go_wp2;refine bodyPost_ret (by simp[results,Tryz.f53,go_sem, *];rfl) rfl ?_;refine⟨_,_,_,_,_,_,_,_,_,_,_,_,rfl,?_⟩;repeat with_reducible first|exact ab.out|refine uK ?_ _ _ _ (by omega)
    cases b0:s.code==0 with
    |true =>
     have b2:(s.code==2)=false:=(by simp at b0;simp[b0]);have BO:=ua (ux wr #[.int .i64 s.code,.int .i64 (s.pos:Int),.int .i64 0,.int .i64 (s.far:Int),.slice l m u,.int .i64 (s.steps:Int),.int .i64 (s.throws:Int),.slice none 0 0] 39);have BA:=ua (BR.al (.cells #[.int .i64 s.code,.int .i64 (s.pos:Int),.int .i64 0,.int .i64 (s.far:Int),.slice l m u,.int .i64 (s.steps:Int),.int .i64 (s.throws:Int),.slice none 0 0] 39));go_wp2_with (at_builtin;refine uty rfl _ _ 37 37 rfl rfl rfl uoc (Q:=λ_=>False) (.inl ⟨rfl,rfl,rfl⟩) (ax _) (by omega) ?_;intro v4 W4 ae ao a9;rw[Nat.zero_add]at ae;obtain⟨a4,c4,rfl⟩:=uk ae;have U:=Grew.bel ao;have au:=ua (uf ab (uf (ui wr _) U));obtain⟨zo,po,lo⟩:=(BO.on U).x;obtain⟨zr,pr,lr⟩:=(BA.on U).x;obtain⟨zx,px,b4⟩:=((BX.al _).on U).x;unfold qV at zx;clear ae ao a9 U);refine bodyPost_ret (by simp[results,Tryz.f53,go_sem, *];rfl) rfl ?_;refine⟨_,_,_,_,_,_,_,_,_,_,_,_,rfl,?_⟩;repeat with_reducible first|exact au.out|refine uK ?_ _ _ _ (by omega)
    |false =>
     cases b2:s.code==2;all_goals
      go_wp2;refine bodyPost_ret (by simp[results,Tryz.f53,go_sem, *];rfl) rfl ?_;refine⟨_,_,_,_,_,_,_,_,_,_,_,_,rfl,?_⟩;refine uf ?_ (ui _ _);repeat with_reducible first|exact ab.out|refine uK ?_ _ _ _ (by omega)
def uti(t:Tp)(R j:Nat)(w:World)(e:Ending)(w':World):Prop:=∃f s:Int,e=.returned (.tuple #[.int .i64 f,.int .i64 s])/\RdOn t R j w w'
theorem ueo t R i Q a n c P f il ic I w(h:∀b,Q b->b≠R/\b<w.heap.size)(y:InsA Q w a n P)(F:∀i,i<n->(P i).sl<=512)(E:n<=1048576)(A:Ints Q .u8 w f il I)(z:Byt il I)(D:il<=1048576)(B:RdA t R w i) :
  Calls Tryz.prog 19 #[.slice a n c,.slice f il ic,.pointer (some ⟨R,0,none⟩)] w (uti t R (t.n (t.n i)) w):=by
 have N:=t.v_le i;have O:=t.v_le (t.n i);have s:Hid (∀W,Keep (λx=>x=R) w W->Calls Tryz.prog 53 #[.slice a n c,.slice f il ic,.int .i64 20000,.int .i64 200] W (uqP W)):=λW j=>by
  have st:=j.stay (λb q=>⟨(h b q).2,(h b q).1⟩);exact uol Q Q a n c P f il ic I 20000 200 W (y.on st) ⟨by omega,by omega,by omega,by omega,F⟩ E (A.on st) z D
 go_enter Tryz.func19,Tryz.ntmps19;go_wp2_with fail;refine(uw t R i w B).mono ?_;rintro e W1 ⟨rfl,g⟩;go_wp2_with fail;refine(uw t R _ W1 g.1).mono ?_;rintro e W2 ⟨rfl,u⟩;have d:=ua (g.trans u);generalize t.v i=l at *;generalize t.v (t.n i)=o at *;obtain⟨k,j⟩:=nm (l%10);have hk':(l:Int)%10=(k:Int):=by omega
 have H:k<10:=by omega
 obtain⟨m,J⟩:=nm (o%4);have hm':(o:Int)%4=(m:Int):=by omega
 have L:m<4:=by omega
 go_upto_if 19 with fail;try simp only[hk']
 rcases(by omega:k<5\/k=5\/k=6\/k=7\/k=8\/k=9) with q|rfl|rfl|rfl|rfl|rfl
 ·have q':(k:Int)<5:=by omega
  go_wp2;refine bodyPost_ret (by simp[results,Tryz.f19,go_sem];rfl) rfl ?_;exact⟨_,_,rfl,d⟩
 ·go_wp2;refine bodyPost_ret (by simp[results,Tryz.f19,go_sem];rfl) rfl ?_;exact⟨_,_,rfl,d⟩
 ·go_wp2;refine bodyPost_ret (by simp[results,Tryz.f19,go_sem];rfl) rfl ?_;exact⟨_,_,rfl,d⟩
 ·rcases(by omega:m=0\/m=1\/m=2\/m=3) with rfl|rfl|rfl|rfl;all_goals
   go_wp2;refine bodyPost_ret (by simp[results,Tryz.f19,go_sem];rfl) rfl ?_;exact⟨_,_,rfl,d.quiet (Keep.alloc _ _ _)⟩
 ·rcases(by omega:m=0\/m=1\/m=2\/m=3) with rfl|rfl|rfl|rfl;all_goals
   go_wp2;go_quiet (fail);go_wp2;refine bodyPost_ret (by simp[results,Tryz.f19,go_sem];rfl) rfl ?_;exact⟨_,_,rfl,(d.quiet (Keep.alloc _ _ _)).quiet (ucm _ _)⟩
 have p:=ua (s W2 d.2);go_wp2_with fail;refine p.mono ?_;rintro e G ⟨_,_,_,_,_,_,_,_,_,_,_,_,rfl,C⟩;have r:=ua (d.quiet (vK C));go_wp2;refine bodyPost_ret (by simp[results,Tryz.f19,go_sem];rfl) rfl ?_;exact⟨_,_,rfl,r.quiet (Keep.alloc _ _ _)⟩
section
open Go.RowKit
open M (OpD ug Gr ur EX ins uH)
namespace M
def EX.SetLe(m:Nat):EX->Prop
 | .empty=>True
 | .set n _=>n<=m
 | .ref _=>True
 | .thr _ _=>True
 | .seq x y=>x.SetLe m/\y.SetLe m
 | .alt x y=>x.SetLe m/\y.SetLe m
 | .star x=>x.SetLe m
 | .not x=>x.SetLe m
theorem uaJ{nr m:Nat}{o:OpD}(ho:o.sl<=m){x y:EX}(hx:x.SetLe m)(hy:y.SetLe m):(nodeE nr o x y).SetLe m:=by
 unfold nodeE
 repeat' split
 all_goals first|exact ho | exact⟨hx,hy⟩ | exact hx | trivial
theorem ukD{nr m:Nat}(B:Nat->OpD)(n:Nat)(hB:∀i,i<n->(B i).sl<=m):∀p,p∈stk (nodeE nr) B n->p.2.SetLe m:=by
 induction n with
 |zero=>intro p hp;simp[stk]at hp
 |succ n ih =>
  have ih':=ih (fun i hi=>hB i (by omega))
  have ho:=hB n (by omega)
  have hd:=trivial;rw[stk];generalize stk (nodeE nr) B n=l at *;intro p hp;unfold stp at hp;split at hp
  ·match l,ih',hp with
   | [],_,hp=>simp at hp
   | [_],_,hp=>simp at hp
   | (s2,y)::(s1,x)::r,ih',hp =>
    rcases List.mem_cons.1 hp with rfl | hp
    ·exact uaJ ho (ih' (s1,x) (by simp)) (ih' (s2,y) (by simp))
    ·exact ih' p (by simp[hp])
  ·split at hp
   ·match l,ih',hp with
    | [],_,hp=>simp at hp
    | (s1,x)::r,ih',hp =>
     rcases List.mem_cons.1 hp with rfl | hp
     ·exact uaJ ho (ih' (s1,x) (by simp)) hd
     ·exact ih' p (by simp[hp])
   ·rcases List.mem_cons.1 hp with rfl | hp
    ·exact uaJ ho hd hd
    ·exact ih' p hp
theorem tree_setLe{nr m n:Nat}{B:Nat->OpD}(hB:∀i,i<n->(B i).sl<=m):(treeE nr n B).SetLe m:=by
 unfold treeE;have:=ukD (nr:=nr) B n hB;generalize stk (nodeE nr) B n=l at *;match l,this with
 | [],_=>trivial
 | (s,t)::r,h=>exact h (s,t) (by simp)
theorem emit_setLe(r:Nat->Int)(m:Nat)(t:EX)(ht:t.SetLe m):∀p d,d∈uH r t p->d.sl<=m:=by
 have hin:∀k a z:Int,(ins k a z).sl<=m:=fun k a z=>Nat.zero_le _
 induction t with
 |empty=>intro p d hd;simp[uH]at hd
 |set n S=>intro p d hd;simp[uH]at hd;subst hd;exact ht
 |ref n=>intro p d hd;simp[uH]at hd;subst hd;exact hin _ _ _
 |thr l n=>intro p d hd;simp[uH]at hd;subst hd;exact hin _ _ _
 |seq x y ihx ihy =>
  intro p d hd;rw[uH]at hd;rcases List.mem_append.1 hd with q | q
  ·exact ihx ht.1 _ d q
  ·exact ihy ht.2 _ d q
 |alt x y ihx ihy =>
  intro p d hd;rw[uH]at hd;rcases List.mem_cons.1 hd with rfl | q
  ·exact hin _ _ _
  ·rcases List.mem_append.1 q with q | q
   ·exact ihx ht.1 _ d q
   ·rcases List.mem_cons.1 q with rfl | q
    ·exact hin _ _ _
    ·exact ihy ht.2 _ d q
 |star x ih =>
  intro p d hd;rw[uH]at hd;rcases List.mem_cons.1 hd with rfl | q
  ·exact hin _ _ _
  ·rcases List.mem_append.1 q with q | q
   ·exact ih ht _ d q
   ·simp at q;subst q;exact hin _ _ _
 |not x ih =>
  intro p d hd;rw[uH]at hd;rcases List.mem_cons.1 hd with rfl | q
  ·exact hin _ _ _
  ·rcases List.mem_append.1 q with q | q
   ·exact ih ht _ d q
   ·simp at q;subst q;exact hin _ _ _
end M
theorem uju{g:Gr}(hV:M.Sound g){p:Nat}(hp:p<g.nr+g.nb):∀i,i<(nd g p).bl->M.ElemOK g.nr g.nb ((nd g p).body i):=fun i hi =>
 (xt hV hp).elim (fun q=>by omega) (fun h=>h.1 i hi)
theorem ujv{nr nb:Nat}{o:OpD}(h:M.ElemOK nr nb o):o.sl<=512:=by
 obtain⟨_,_,h1,h2,_⟩:=h;by_cases e:o.kind=1
 ·have:=M.canon_len (h1 e)
  omega
 ·have:=h2 e
  omega
theorem ul3{g:Gr}(hV:M.Sound g)(k:Nat)(hk:k<=g.nr+g.nb):∀d,d∈vO g k->d.sl<=512:=by
 have hin:∀k a z:Int,(ins k a z).sl<=512:=fun k a z=>Nat.zero_le _
 induction k with
 |zero =>
  intro d hd;have hd':d=ins 6 0 (plc g 0)\/d=ins 12 0 0:=by simpa[vO,M.progC] using hd
  rcases hd' with rfl | rfl<;>exact hin _ _ _
 |succ k ih =>
  intro d hd;by_cases h:0<(nd g k).bl
  ·rw[ud7 g k h]at hd
   simp only[List.mem_append,List.mem_singleton]at hd;rcases hd with (((q | q) | q) | q) | q
   ·exact ih (by omega) d q
   ·subst q
    unfold opG;split<;>exact hin _ _ _
   ·exact M.emit_setLe _ _ _ (M.tree_setLe (fun i hi=>ujv (uju hV (by omega) i hi))) _ d q
   ·subst q;exact hin _ _ _
   ·subst q;exact hin _ _ _
  ·rw[ud8 g k h]at hd
   exact ih (by omega) d hd
def dat(l:List ur)(i:Nat):ur:=(l[i]?).getD (ins 0 0 0)
theorem ujw{L:List IC}{i:Nat}(h:i<L.length):dat (L.map IC.d) i=L[i].d:=by simp[dat,h]
theorem ul4{Q:Nat->Prop}{w:World}{g:Nat}{L:List IC}(hcell:∀j,j<(uG L).length->w.cell? ⟨g,j,none⟩=(uG L)[j]?){i:Nat}(hi:i<L.length) :
  w.cell? ⟨g,i*4,none⟩=some (.int .i64 (dat (L.map IC.d) i).kind)/\w.cell? ⟨g,i*4+1,none⟩=some (.int .i64 (dat (L.map IC.d) i).arg)/\w.cell? ⟨g,i*4+2,none⟩=some (.int .i64 (dat (L.map IC.d) i).to)/\w.cell? ⟨g,i*4+3,none⟩=some (.slice L[i].a (dat (L.map IC.d) i).sl L[i].c):=by
 have hx:=List.getElem?_eq_getElem hi;have hl:=uaG L;have hg:∀j,j<4->w.cell? ⟨g,i*4+j,none⟩=(icv L[i])[j]?:=fun j hj=>by
  rw[hcell _ (by rw[hl];omega),uaH L i j _ hx hj]
 rw[ujw hi];exact⟨hg 0 (by omega),hg 1 (by omega),hg 2 (by omega),hg 3 (by omega)⟩
theorem ujx{P S Q:Nat->Prop}{w:World}{a:Option Addr}{c:Nat}{L:List IC}(own:OwnC P w (.slice a L.length c) 4 L.length (uG L))(sets:SetsA S w L)(hP:∀b,P b->Q b)(hS:∀b,S b->Q b):InsA Q w a L.length (dat (L.map IC.d)):=by
 rcases own with⟨_,e,_⟩|⟨g,cap,e,hq,hl,hc,hcell,hw⟩
 ·exact .inl e
 ·obtain rfl:a=some ⟨g,0,none⟩:=by injection e
  refine .inr ⟨g,0,rfl,hP g hq,fun i hi=>?_⟩
  obtain⟨h0,h1,h2,h3⟩:=ul4 (Q:=Q) hcell hi;rw[Nat.zero_add];refine⟨h0,h1,h2,_,_,h3,?_⟩;rw[ujw hi];exact (sets L[i] (List.getElem_mem hi)).wide hS
def pgN(g:Gr):Nat:=PL g (g.nr+g.nb)
def pgI(g:Gr):Nat->ur:=dat (vO g (g.nr+g.nb))
theorem ul5{g:Gr}(hV:M.Sound g):pgN g<=5000/\∀i,i<pgN g->(pgI g i).sl<=512:=by
 refine⟨ubO hV _ (Nat.le_refl _),fun i hi=>?_⟩
 have hl:i<(vO g (g.nr+g.nb)).length:=by rw[xW];exact hi
 have e:pgI g i=(vO g (g.nr+g.nb))[i]:=by simp[pgI,dat,hl]
 rw[e];exact ul3 hV _ (Nat.le_refl _) _ (List.getElem_mem hl)
def PgA(g:Gr)(w:World)(e:Ending)(w':World):Prop:=∃a c,e=.returned (.slice a (pgN g) c)/\InsA (New w w') w' a (pgN g) (pgI g)/\Below w.heap.size w w'
def PgT(g:Gr)(w:World)(e:Ending)(w':World):Prop:=∃a c,e=.returned (.tuple #[.slice a (pgN g) c,.int .i64 0])/\InsA (New w w') w' a (pgN g) (pgI g)/\Below w.heap.size w w'
theorem uh7(Q:Nat->Prop)(ra la:Option Addr)(rc lc:Nat)(g:Gr)(hV:M.Sound g)(w:World)(hG:GramX Q w ra la g):Calls Tryz.prog 20 #[.agg #[.slice ra g.nr rc,.slice la g.nb lc]] w (PgA g w):=by
 refine (uex Q ra la rc lc g hV w hG).mono ?_;rintro e W ⟨a,n,c,L,rfl,HN,HM,HR⟩;have hn:n=pgN g:=by rw[HN.out];unfold pgN;rw[<-xW,<-HM.out,List.length_map]
 have hR:=HR;have hb:=hR.bel;obtain⟨P,S,h⟩:=hR;refine⟨a,c,by rw[hn],?_,hb⟩
 have hN:=HN;subst hN;have:=ujx (Q:=New w W) h.own h.sets (fun b hb=>⟨(h.p b hb).1,(h.p b hb).2.1⟩) (fun b hb=>⟨(h.s b hb).1,(h.s b hb).2⟩)
 rw[HM.out,hn]at this;exact this
theorem ukE(Q:Nat->Prop)(ra la:Option Addr)(rc lc:Nat)(g:Gr)(hV:M.Valid g)(hs:vF g)(w:World)(hG:GramX Q w ra la g):Calls Tryz.prog 8 #[.agg #[.slice ra g.nr rc,.slice la g.nb lc]] w (PgT g w):=by
 refine (ugx Q ra la rc lc g w hG hs).mono ?_;rintro e W ⟨⟨_,a,n,c,L,P,S,rfl,hN,hM,h⟩|⟨q,_⟩,hb⟩
 ·have hn:n=pgN g:=by rw[hN];unfold pgN;rw[<-xW,<-hM,List.length_map]
  refine⟨a,c,by rw[hn],?_,hb⟩
  subst hN;have:=ujx (Q:=New w W) h.own h.sets (fun b hb=>⟨(h.p b hb).1.1,(h.p b hb).1.2⟩) (fun b hb=>⟨(h.s b hb).1,(h.s b hb).2⟩)
  rw[hM,hn]at this;exact this
 ·exact absurd hV q
end
end Go.Proofs.YtimfigongapdnaaGreat
