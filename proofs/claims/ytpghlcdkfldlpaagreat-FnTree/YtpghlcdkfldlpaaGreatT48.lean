import Derived.Test.YtpghlcdkfldlpaaGreatT47
set_option linter.unusedVariables false
set_option linter.unusedSimpArgs false
set_option maxHeartbeats 40000000
set_option maxRecDepth 100000
namespace Go.Proofs.YtpghlcdkfldlpaaGreat
open Go.RowKit
open M (OpD ue Gr um)
theorem udU{most:Int}{s:MSt}(x:um)(il:Nat)(I:Nat->Int):(s.act x il I most).throws<=s.throws+1:=by
 have e:∀s:MSt,s.fail.throws=s.throws:=λs=>by unfold MSt.fail;split<;>rfl
 have g:∀(s:MSt) f,(s.push f most).throws=s.throws:=λs f=>by unfold MSt.push;split<;>rfl
 have h:∀(s:MSt) n S,(s.note n S).throws=s.throws:=λs n S=>by unfold MSt.note;split<;>(try split)<;>rfl
 have d:∀(c:Prop) [Decidable c] (a b:MSt),a.throws<=s.throws+1->b.throws<=s.throws+1->(if c then a else b).throws<=s.throws+1:=λc _ a b i j=>by split<;>assumption
 unfold MSt.act MSt.test MSt.hold MSt.enter;repeat' (refine d _ _ _ ?_ ?_)
 all_goals first|exact Nat.le_succ _|exact Nat.le_refl _|(rw[g];exact Nat.le_succ _)|(rw[g];exact Nat.le_refl _)|(rw[e];exact Nat.le_succ _)|(rw[e];refine d _ _ _ ?_ ?_;exact Nat.le_succ _;rw[h];exact Nat.le_succ _)
def uac(c:Int):uhu:=⟨c,0,0,0,0,λ_=>0,0,0,0,λ_=>⟨0,0,0⟩⟩
def udV(t:MSt):uhu :=
 if t.code=4\/t.code=3 then uac t.code else
 ⟨t.code,if t.code=0\/t.code=2 then (t.pos:Int) else 0,if t.code=2 then t.label else 0,t.far,(rg t.exp 256).length,lf (rg t.exp 256),t.steps,t.throws,if t.code=0 then t.log.length else 0,λi=>t.log.getD i ⟨0,0,0⟩⟩
structure udW(n:Nat)(R:Nat->um)(fuel most:Int):Prop where
 f0:0<=fuel
 f1:fuel<=50000
 m0:0<=most
 m1:most<=1000
 sets:∀i,i<n->(R i).sl<=512
def s0:MSt:=⟨0,0,[],[],0,λ_=>false,0,0,false,0,0⟩
def uq0(n:Nat)(R:Nat->um)(il:Nat)(I:Nat->Int)(fuel most:Int)(o:uhu):Prop :=
 (udW n R fuel most/\∃t,Ends n R il I fuel most s0 t/\o=udV t)\/(¬udW n R fuel most/\o=uac 4)
theorem uht n R il I fuel most:∃o,uq0 n R il I fuel most o:=by
 by_cases h:udW n R fuel most
 ·obtain⟨t,a⟩:=ufe (n:=n) (R:=R) (il:=il) (I:=I) (fuel:=fuel) (most:=most) fuel.toNat s0 h.f0 (by show(fuel-0).toNat<=_;simp);exact⟨udV t,.inl ⟨h,t,a,rfl⟩⟩
 exact⟨uac 4,.inr ⟨h,rfl⟩⟩
def unr(o:uhu)(w:World)(e:Ending)(w':World):Prop:=∃a b c d,e=.returned (ucK o a b c d)/\Below w.heap.size w w'
theorem upf{w w'}c(a:Below w.heap.size w w'):unr (uac c) w (.returned (ucK (uac c) none 0 none 0)) w':=⟨none,0,none,0,rfl,a⟩
def uad(s:MSt)(ka:Option Addr)(kc:Nat)(la:Option Addr)(lc:Nat)(a:Option Addr)(c b:Nat):Array Value:=#[.int .i64 s.at_,.int .i64 (s.pos:Int),.slice ka s.st.length kc,.slice la s.log.length lc,.int .i64 (s.far:Int),.slice a c b,.int .i64 (s.steps:Int),.int .i64 (s.throws:Int),.bool s.done,.int .i64 s.code,.int .i64 s.label]
structure RuA(w:World)(t:MSt)(n:Nat)(R:Nat->um)(il:Nat)(I:Nat->Int)(fuel most:Int)(s:MSt)(wr:World)(ka:Option Addr)(kc:Nat)(la:Option Addr)(lc:Nat)(xa:Option Addr)(xn xc:Nat)(K L X:Nat->Prop):Prop where
 box:wr.heap[w.heap.size+1]?=some (.cells (uad s ka kc la lc xa xn xc) 82)
 res:wr.heap[w.heap.size]?=some (.cells #[.int .i64 0,.int .i64 0,.int .i64 0,.int .i64 0,.slice none 0 0,.int .i64 0,.int .i64 0,.slice none 0 0] 37)
 a:SpA K L X wr s ka kc la lc xa xn
 lo:∀b,K b\/L b\/X b->w.heap.size+2<=b
 good:Good most s
 st:(s.steps:Int)<=fuel
 thr:s.throws<=s.steps
 ends:Ends n R il I fuel most s t
 bel:Below w.heap.size w wr
def ruI(w:World)(t:MSt)(n:Nat)(R:Nat->um)(il:Nat)(I:Nat->Int)(fuel most:Int)(wr:World):Prop :=
 ∃s ka kc la lc a c b,∃K L X:Nat->Prop,RuA w t n R il I fuel most s wr ka kc la lc a c b K L X
def uf0(wr:World)(b:Nat):Nat:=match wr.cell? ⟨b,6,none⟩ with|some (.int _ z)=>z.toNat|_=>0
def uf1(wr:World)(b:Nat):Nat:=match wr.cell? ⟨b,8,none⟩ with|some (.bool true)=>0|_=>1
theorem ujZ{wr b k}(h:wr.cell? ⟨b,6,none⟩=some (.int .i64 (k:Int))):uf0 wr b=k:=by unfold uf0;rw[h];simp
theorem uj0{wr b d}(h:wr.cell? ⟨b,8,none⟩=some (.bool d)):uf1 wr b=if d then 0 else 1:=by unfold uf1;rw[h];cases d<;>rfl
theorem uj1{w t n R il I fuel most s s' wr Z W i ka x la z Y B kc y lc A xn C xc E K L X l m o}(h:RuA w t n R il I fuel most s wr ka kc la lc Y xn xc K L X)(u:s.done=false)(v:s.next n R il I fuel most=s')(f:Only (λb=>b=w.heap.size+1) wr Z)(g:Kept (λb=>K b\/L b) Z W)(c:Only (λb=>b=w.heap.size+1) W i)(N:SpA l m o W s' x y z A B C)(O:∀b,l b->K b\/New Z W b)(P:∀b,m b->L b\/New Z W b)(Q:∀b,o b->X b\/New Z W b)(r:i.heap[w.heap.size+1]?=some (.cells (uad s' x y z A B C E) 82))(T:s'.throws<=s'.steps) :
  ruI w t n R il I fuel most i/\2*(fuel.toNat-uf0 i (w.heap.size+1))+uf1 i (w.heap.size+1)<2*(fuel.toNat-uf0 wr (w.heap.size+1))+uf1 wr (w.heap.size+1):=by
 have ad:=(Array.getElem?_eq_some_iff.1 h.box).1;have ac:=f.size;have ab:=g.size;have aa:=c.size;have D:∀b,b<=w.heap.size+1->¬(K b\/L b):=λb a q=>by
  have:=h.lo b (q.elim .inl (λq=>.inr (.inl q)));omega
 have lo':∀b,l b\/m b\/o b->w.heap.size+2<=b:=λb a=>by
  rcases a with a|a|a
  ·rcases O b a with q|q
   ·exact h.lo b (.inl q)
   have:=q.1;omega
  ·rcases P b a with q|q
   ·exact h.lo b (.inr (.inl q))
   have:=q.1;omega
  rcases Q b a with q|q
  ·exact h.lo b (.inr (.inr q))
  have:=q.1;omega
 have p:=ku (n:=n) (R:=R) (il:=il) (I:=I) (most:=most) u h.st;rw[v]at p;refine⟨⟨s',x,y,z,A,B,C,E,l,m,o,r,?_,N.on (λb a=>c.block b (λe=>by have:=lo' b a;omega)) (by omega),lo',v▸ub5 h.good,p.1,T,v▸h.ends.next u,?_⟩,?_⟩
 ·rw[c.block _ (by omega),g.block _ (by omega) (D _ (by omega)),f.block _ (by omega)];exact h.res
 ·have a:=h.bel;exact⟨c.os.trans (g.os.trans (f.os.trans a.os)),c.tape.trans (g.tape.trans (f.tape.trans a.tape)),c.output.trans (g.output.trans (f.output.trans a.output)),by have:=a.size;omega,λb S=>(c.block b (by omega)).trans ((g.block b (by omega) (D b (by omega))).trans ((f.block b (by omega)).trans (a.block b S)))⟩
 have F:=ujZ (k:=s.steps) (ui (j:=6) h.box rfl);have G:=uj0 (d:=s.done) (ui (j:=8) h.box rfl);have H:=ujZ (k:=s'.steps) (ui (j:=6) r rfl);have J:=uj0 (d:=s'.done) (ui (j:=8) r rfl);rw[F,G,H,J,u];have hf:=h.st;rcases p.2 with⟨U,V⟩|q
 ·rw[U,V];simp
 have:=p.1;rw[q];cases s'.done<;>simp<;>omega
def uns(w:World)(b:Nat)(a c e f v4 g h i j k d:Value):World:=(((((((((((w.setCell ⟨b,0,none⟩ a).setCell ⟨b,1,none⟩ c).setCell ⟨b,2,none⟩ e).setCell ⟨b,3,none⟩ f).setCell ⟨b,4,none⟩ v4).setCell ⟨b,5,none⟩ g).setCell ⟨b,6,none⟩ h).setCell ⟨b,7,none⟩ i).setCell ⟨b,8,none⟩ j).setCell ⟨b,9,none⟩ k).setCell ⟨b,10,none⟩ d)
theorem xG{w b t o p r s u v x y z A q}a c f g v4 i k l m n d(h:w.heap[b]?=some (.cells #[o,p,r,s,u,v,x,y,z,A,q] t)):(uns w b a c f g v4 i k l m n d).heap[b]?=some (.cells #[a,c,f,g,v4,i,k,l,m,n,d] t):=by
 have e:=vX (j:=10) d (vX (j:=9) n (vX (j:=8) m (vX (j:=7) l (vX (j:=6) k (vX (j:=5) i (vX (j:=4) v4 (vX (j:=3) g (vX (j:=2) f (vX (j:=1) c (vX (j:=0) a (h)))))))))));simp only[List.setIfInBounds_toArray,List.set_cons_zero,List.set_cons_succ]at e;exact e
theorem yW w b a c e f v4 g i j l m d:Only (λx=>x=b) w (uns w b a c e f v4 g i j l m d):=by
 unfold uns;have h:=λ(o:Nat) (v:Value) {W:World} (k:Only (λx=>x=b) w W)=>Only.set (P:=λx=>x=b) k b o v rfl
 exact h 10 d (h 9 m (h 8 l (h 7 j (h 6 i (h 5 g (h 4 v4 (h 3 f (h 2 e (h 1 c (h 0 a (Only.refl _ _)))))))))))
theorem Only.drew{P w w'}(h:Only P w w'):Only P w w'.drew:=⟨h.os,h.tape,h.output,h.size,h.block⟩
theorem ulc{P:Program}{ops:Array Oper}{o:Oper}{a:Act}{w:World}{K:Act->World->Prop}{i:Exit->Act->World->Prop}{E:Prop}{f:FuncId}(j:∀args w,(callFunc f args).run P w=.ok (.enter f args) w)(k:o.guard=none)(b c d g:Operand)(v x y z:TypeId)
  (m:o.op=.call { callee:=.value (.func f),args:=#[b,c,d,g],argTypes:=#[v,x,y,z] }) {y1 y2 y3 y4:Value} (q:a.eval b=y1) (r:a.eval c=y2) (s:a.eval d=y3) (t:a.eval g=y4) (h:Calls P f #[y1,y2,y3,y4] w (λe w'=>∃u,e=.returned u/\K (a.put o.dst u) w')):if Region.wanted o (yielded ops a.tmps)=true then Oper.wp P o a w K i else E:=by
 have p:Region.wanted o (yielded ops a.tmps)=true:=by simp[Region.wanted,k]
 rw[if_pos p];have n:(execOp a.eval o).run P w=.ok (.enter f #[y1,y2,y3,y4]) w:=by
  have e:a.eval (.func f)=.func (.func f) #[] #[]:=rfl;unfold execOp;simp only[m,resolve,invoke,Deferred.ofValue,Sem.run_bind,Sem.run_pure,Result.andThen_ok,List.map_toArray,List.map_cons,List.map_nil,q,r,s,t,e];exact j #[y1,y2,y3,y4] w
 unfold Oper.wp;rw[n];refine Calls.mono h ?_;rintro e w' ⟨u,rfl,l⟩;exact l
theorem uph args w:(callFunc 31 args).run Tryz.prog w=.ok (.enter 31 args) w:=by
  simp[callFunc,Tryz.func31,Tryz.f31,go_sem]
theorem unx{Q w v x a l n m cs news t j e}ty(f:vV t e a l)(i:OwnC Q w v a n cs)(d:Src Tryz.prog a j x m news w)(s:n+m<=16777216) :
    ∃k w',(Builtin.append_ #[t,j] ty #[v,x]).run Tryz.prog w=.ok k w'/\OwnC (fun b=>Q b\/w.heap.size<=b) w' k a (n+m) (cs++news)/\Grew (fun b=>Q b) w w'/\w'.heap.size<=w.heap.size+1:=by
  by_cases c:v=.slice none 0 0->0<m
  · exact yX ty f i d s c
  · have u:v=.slice none 0 0:=Classical.byContradiction (fun h=>c (fun q=>absurd q h))
    obtain rfl:m=0:=by
      by_cases h:m=0
      · exact h
      · exact absurd (fun _=>by omega) c
    have z:=d.newsLen;obtain rfl:news = []:=List.eq_nil_of_length_eq_zero (by omega)
    subst u;have p:n=0/\cs = []:=by
      rcases i with⟨_,h,o⟩|⟨g,cap,h,_⟩
      · exact⟨h,o⟩
      · cases h
    obtain⟨rfl,rfl⟩:=p;exact⟨_,_,ubg ty f d,.inl ⟨rfl,rfl,rfl⟩,⟨rfl,rfl,rfl,Nat.le_refl _,fun _ _ _=>rfl,fun _ _ _=>rfl,fun _ _ y r=>absurd r (by omega)⟩,by omega⟩
theorem usd{ops:Array Oper}{rest:List Oper}{o:Oper}{a:Act}{f:Exit->Act->World->Prop}{w:World}(r:o.guard=none)(s x:Operand)(t g:TypeId)(z:o.op=.call { callee:=.builtin .append,args:=#[s,x],argTypes:=#[t,g] })
    {Q:Nat->Prop} {v y:Value} {e:TypeId} {c i n m:Nat} {cs news:List Value} (C:a.eval s=v) (E:a.eval x=y) (p:vV t e c i) (A:OwnC Q w v c n cs) (D:Src Tryz.prog c g y m news w) (u:n+m<=16777216)
    (h:∀d w',OwnC (fun b=>Q b\/w.heap.size<=b) w' d c (n+m) (cs++news)->Grew (fun b=>Q b) w w'->w'.heap.size<=w.heap.size+1->wpList Tryz.prog ops f rest (a.put o.dst d) w'):wpList Tryz.prog ops f (o::rest) a w:=by
  refine wpList_plain r fun K q=>?_
  obtain⟨d,w',B,j,k,l⟩:=unx o.type p A D u;unfold Oper.wp execOp;simp only[z,resolve,invoke,builtin,Sem.run_bind,Sem.run_pure,Result.andThen_ok,List.map_toArray,List.map_cons,List.map_nil,C,E,B];exact q _ _ (h d w' j k l)
theorem Grew.bel{w w'}(h:Grew (fun _=>False) w w'):Below w.heap.size w w':=⟨h.os,h.tape,h.output,h.size,fun b a=>h.block b a (fun e=>e)⟩
theorem uiU l:∀u,u∈uY l->u.oneCell'=true:=fun u b=>by
  obtain⟨e,_,a⟩:=List.mem_flatMap.1 b;simp[evv]at a;rcases a with rfl | rfl | rfl<;>rfl
theorem upi{L w a c l}(h:OwnC L w (.slice a l.length c) 3 l.length (uY l)):Src Tryz.prog 3 35 (.slice a l.length c) l.length (uY l) w:=by
  rcases h with⟨e,f,i⟩|⟨g,cap,e,p,k,n,m,o⟩
  · obtain rfl:a=none:=by injection e
    rw[f,i];exact Src.ofNil _ Tryz.underlying35 c
  · obtain rfl:a=some ⟨g,0,none⟩:=by injection e
    refine Src.ofSlice (P:=Tryz.prog) _ Tryz.underlying35 ⟨g,0,none⟩ _ c (uY l) k (fun j u d=>?_) (uiU l)
    have e':(⟨g,0,none⟩:Addr).add j=⟨g,j,none⟩:=by
      by_cases b:j=0
      · subst b;simp[Addr.add]
      · simp[Addr.add,b]
    rw[e',m j (List.getElem?_eq_some_iff.1 d).1];exact d
theorem udY:∀(l:List EvD) (i j:Nat) (x:EvD),l[i]? = some x->j<3->(uY l)[i*3+j]? = (evv x)[j]?
  | [],i,j,x,h,_=>by simp at h
  |y::l,0,j,x,h,hj=>by
    simp at h;subst h;show (evv y++uY l)[0*3+j]? = _;rw[List.getElem?_append_left (by show 0*3+j<3;omega)]
    simp
  |y::l,i+1,j,x,h,hj=>by
    simp at h;show (evv y++uY l)[(i+1)*3+j]? = _;have a:(evv y).length=3:=rfl;rw[List.getElem?_append_right (by rw[a];omega),a,show (i+1)*3+j-3=i*3+j by omega]
    exact udY l i j x h hj
theorem upj{Q w a c l}(h:OwnC Q w (.slice a l.length c) 3 l.length (uY l)):EvW Q w a l.length (fun i=>l.getD i ⟨0,0,0⟩):=by
  rcases h with⟨_,e,_⟩|⟨g,cap,e,m,q,p,f,n⟩
  · exact .inl e
  · obtain rfl:a=some ⟨g,0,none⟩:=by injection e
    refine .inr ⟨g,rfl,m,fun j d=>(n j (by omega)).2,fun i k=>?_⟩
    have o:l[i]? = some (l.getD i ⟨0,0,0⟩):=by rw[List.getD_eq_getElem?_getD,List.getElem?_eq_getElem k];rfl
    have b:∀j,j<3->w.cell? ⟨g,i*3+j,none⟩=(evv (l.getD i ⟨0,0,0⟩))[j]?:=fun j d=>by
      rw[f _ (by omega),udY l i j _ o d]
    exact⟨b 0 (by omega),b 1 (by omega),b 2 (by omega)⟩
theorem uny b:rg (fun _=>false) b = []:=by
  induction b with
  |zero=>rfl
  |succ b a=>rw[rg,a];rfl
theorem rg_none:(rg s0.exp 256).length=0:=by
  show (rg (fun _=>false) 256).length=0
  rw[uny];rfl
theorem uhw Q Q' a n c R ia il ic I fuel most o w(N:InsA Q w a n R)(hR:udW n R fuel most)(hn:n<=1048576)(hI:Ints Q' .u8 w ia il I)(hB:Byt il I)(be:il<=1048576)(hD:uq0 n R il I fuel most o) :
    Calls Tryz.prog 7 #[.slice a n c,.slice ia il ic,.int .i64 fuel,.int .i64 most] w (unr o w):=by
  obtain⟨t,a1,a5⟩:∃t,Hid (Ends n R il I fuel most s0 t)/\Hid (o=udV t):=by
    rcases hD with⟨_,t,F,G⟩|⟨h,_⟩
    · exact⟨t,F,G⟩
    · exact absurd hR h
  have HA:=ua N;have ak:=ua hR.sets;have HI:=ua hI;have az:=ua hB;obtain⟨f0,f1,m0,m1,_⟩:=hR;have bq:decide (fuel<0)=false:=by simp;omega
  have br:decide (50000<fuel)=false:=by simp;omega
  have bs:decide (most<0)=false:=by simp;omega
  have bt:decide (1000<most)=false:=by simp;omega
  have BR:=ua (uw w #[.int .i64 0,.int .i64 0,.int .i64 0,.int .i64 0,.slice none 0 0,.int .i64 0,.int .i64 0,.slice none 0 0] 37);have aj:=ua (uf w (.cells #[.int .i64 0,.int .i64 0,.int .i64 0,.int .i64 0,.slice none 0 0,.int .i64 0,.int .i64 0,.slice none 0 0] 37));have a7:=ua (World.alloc_heap_new w (.cells #[.int .i64 0,.int .i64 0,.int .i64 0,.int .i64 0,.slice none 0 0,.int .i64 0,.int .i64 0,.slice none 0 0] 37));have am:Hid ((w.alloc (.cells #[.int .i64 0,.int .i64 0,.int .i64 0,.int .i64 0,.slice none 0 0,.int .i64 0,.int .i64 0,.slice none 0 0] 37)).heap.size=w.heap.size+1):=by show _=_;simp
  clear N hI hB hD;go_enter Tryz.func7,Tryz.ntmps7;go_upto_region 4 with fail
  generalize w.alloc _=X at *;go_loopw [9] (fun iv wr=>∃k:Nat,k<=n/\iv=.int .i64 (k:Int)/\wr=X) (fun iv _=>n-(intOf iv).toNat)
  case atStart=>exact⟨0,Nat.zero_le _,rfl,rfl⟩
  case round =>
    obtain⟨k,hk,rfl,hw⟩:=hrel;subst hw;by_cases av:k<n
    · rcases HA.out.later aj.out with h0 | ⟨b,off,rfl,hq,N⟩
      · omega
      obtain⟨m,c1,D,sa,sc,c3,hs⟩:=N k av;have lb:=ub m;have hlt':(k:Int)<(n:Int):=by omega
      have b5:=ak.out k av;generalize (R k).sl=sl at *;have hbig':¬(512:Int)<(sl:Int):=by omega
      clear N hs;go_wp2;go_roundw
      case rel=>exact⟨k+1,by omega,by go_num,trivial⟩
      case measure=>simp[intOf];omega
    · obtain rfl:k=n:=by omega
      go_wp2;rw[am.out];go_loopw [41] (fun pv wr=>ruI w t k R il I fuel most wr) (fun pv wr=>2*(fuel.toNat-uf0 wr (w.heap.size+1))+uf1 wr (w.heap.size+1))
      case atStart =>
        have b9:=am.out;exact⟨s0,none,0,none,0,none,0,0,fun _=>False,fun _=>False,fun _=>False,yE wr _ _ (by omega),uag a7.out _,⟨.inl ⟨rfl,rfl,rfl⟩,.inl ⟨rfl,rfl,rfl⟩,⟨rg_none.symm,.inl rfl⟩,fun b q=>(q.elim id (fun q=>q.elim id id)).elim,fun _ q=>q.elim,fun _ q=>q.elim,fun _ q=>q.elim⟩,fun b q=>(q.elim id (fun q=>q.elim id id)).elim,⟨m0,Nat.le_refl _,fun f hf=>by simp[s0]at hf,List.Pairwise.nil,fun f hf=>by simp[s0]at hf⟩,f0,Nat.le_refl _,a1.out,ud aj.out (uf _ _)⟩
      case round =>
        obtain⟨s,ka,kc,la,lc,g,y,l,K,L,X,h⟩:=hrel;have d:=ua h;have BX:Hid (Box wr (w.heap.size+1) (uad s ka kc la lc g y l)):=⟨82,h.box⟩;replace BR:Hid (Box wr w.heap.size #[.int .i64 0,.int .i64 0,.int .i64 0,.int .i64 0,.slice none 0 0,.int .i64 0,.int .i64 0,.slice none 0 0]):=⟨37,h.res⟩;have b6:=h.st;obtain⟨z,p,lz⟩:=BX.x;unfold uad at z;cases hd:s.done with
        |false =>
          have O:=ua hd;rw[hd]at z;have ai:Hid (∀S:Int,s.next k R il I fuel most=s.fin S->Calls Tryz.prog 30 #[stV s ka kc la lc g y l,.int .i64 S] wr (fun e W=>e=.returned (stV (s.fin S) ka kc la lc g y l)/\Hid (W.heap[w.heap.size+1]? = some (.cells (uad s ka kc la lc g y l) 82))/\Hid (∀u,Only (fun b=>b=w.heap.size+1) W u->u.heap[w.heap.size+1]? = some (.cells (uad (s.fin S) ka kc la lc g y l) 82)->ruI w t k R il I fuel most u/\2*(fuel.toNat-uf0 u (w.heap.size+1))+uf1 u (w.heap.size+1)<2*(fuel.toNat-uf0 wr (w.heap.size+1))+uf1 wr (w.heap.size+1)))):=fun S bf =>
            (uay s ka la g kc lc y l S wr).mono (fun e W q=>⟨q.1,(q.2.block _ BX.x.2.2).trans d.box,fun u F G=>uj1 d O bf (Only.refl _ wr) (Kept.of q.2) F ((d.a.on (fun b r=>q.2.block b (d.a.lt b r)) q.2.size).same rfl rfl rfl) (fun b r=>.inl r) (fun b r=>.inl r) (fun b r=>.inl r) G d.thr⟩)
          obtain⟨Z,bd⟩:=nm (decide (s.at_<0\/(k:Int)<=s.at_));have U:=ua bd;go_upto_region 10 with fail
          go_cut [53] (fun v wc=>v=.bool Z/\wc=wr)
          case first =>
            by_cases ha:s.at_<0
            · have V:Hid (true=Z):=by show _=_;rw[<-U.out];simp[ha]
              go_wp2;go_meet;exact⟨by rw[<-V.out],rfl⟩
            · by_cases r:(k:Int)<=s.at_
              · have V:Hid (true=Z):=by show _=_;rw[<-U.out];simp[r]
                go_wp2;go_meet;exact⟨by rw[<-V.out],rfl⟩
              · have V:Hid (false=Z):=by show _=_;rw[<-U.out];simp[ha,r]
                go_wp2;go_meet;exact⟨by rw[<-V.out],rfl⟩
          case rest =>
            obtain⟨rfl,hw⟩:=hcut;subst hw;cases Z with
            |true =>
              have A:=ai 4 (by unfold MSt.next;rw[if_pos (of_decide_eq_true U.out)])
              obtain⟨B,H⟩:=nm (s.fin 4);rw[H]at A;unfold stV at A;rw[O.out]at A;have HC:=ua A;go_wp2_with fail;refine HC.mono ?_;rintro e W ⟨rfl,J,C⟩;obtain⟨z2,p2,bl⟩:=Box.x ⟨82,J⟩;unfold uad at z2;go_wp2;go_roundw
              case rel=>exact (C _ (yW _ _ _ _ _ _ _ _ _ _ _ _ _) (xG _ _ _ _ _ _ _ _ _ _ _ J)).1
              case measure=>exact (C _ (yW _ _ _ _ _ _ _ _ _ _ _ _ _) (xG _ _ _ _ _ _ _ _ _ _ _ J)).2
            |false =>
              have af:=of_decide_eq_false U;by_cases aa:(s.steps:Int)=fuel
              · have ba:((s.steps:Int)==fuel)=true:=by simpa using aa
                have A:=ai 3 (by unfold MSt.next;rw[if_neg af,if_pos aa])
                obtain⟨B,H⟩:=nm (s.fin 3);rw[H]at A;unfold stV at A;rw[O.out]at A;have HC:=ua A;clear A H aa af;go_wp2_with fail;refine HC.mono ?_;rintro e W ⟨rfl,J,C⟩;obtain⟨z2,p2,bl⟩:=Box.x ⟨82,J⟩;unfold uad at z2;go_wp2;go_roundw
                case rel=>exact (C _ (yW _ _ _ _ _ _ _ _ _ _ _ _ _) (xG _ _ _ _ _ _ _ _ _ _ _ J)).1
                case measure=>exact (C _ (yW _ _ _ _ _ _ _ _ _ _ _ _ _) (xG _ _ _ _ _ _ _ _ _ _ _ J)).2
              · have ba:((s.steps:Int)==fuel)=false:=by simpa using aa
                obtain⟨q,hq⟩:∃q:Nat,s.at_=(q:Int):=⟨s.at_.toNat,by omega⟩
                have aw:q<k:=by omega
                rcases HA.out with h0 | ⟨b,off,rfl,b3,N⟩
                · omega
                obtain⟨m,c1,D,sa,sc,c3,hs⟩:=N q aw;have ca:=ub m;have b7:=d.bel.size;obtain⟨B,H⟩:=nm (({ s with steps:=s.steps+1 }:MSt).act (R q) il I most)
                have a3:Hid (s.next k R il I fuel most=B):=by show _=_;unfold MSt.next;rw[if_neg af,if_neg aa,show s.at_.toNat=q by omega];exact H
                have bb:Hid (B.throws<=B.steps):=by
                  have F:=udU (most:=most) (s:={ s with steps:=s.steps+1 }) (R q) il I
                  have G:=ub6 (most:=most) (s:={ s with steps:=s.steps+1 }) (R q) il I
                  rw[H]at F G;have h3:=d.thr;have h4:B.throws<=s.throws+1:=F;have h5:B.steps=s.steps+1:=G;show B.throws<=B.steps;omega
                have hZ:Only (fun b=>b=w.heap.size+1) wc (wc.setCell ⟨w.heap.size+1,6,none⟩ (.int .i64 ((s.steps:Int)+1))):=Only.set (P:=fun b=>b=w.heap.size+1) (Only.refl _ wc) (w.heap.size+1) 6 _ rfl
                have BY:=ua (vX (j:=6) (.int .i64 ((s.steps:Int)+1)) d.box);unfold uad at BY;simp only[List.setIfInBounds_toArray,List.set_cons_zero,List.set_cons_succ,O.out,hq]at BY;have T:Below w.heap.size w (wc.setCell ⟨w.heap.size+1,6,none⟩ (.int .i64 ((s.steps:Int)+1))):=uo d.out.bel _ _ _ (by omega)
                replace m:=uc m T;replace c1:=uc c1 T;replace D:=uc D T;replace c3:=uc c3 T;have a6:Hid (uqY K L X (wc.setCell ⟨w.heap.size+1,6,none⟩ (.int .i64 ((s.steps:Int)+1))).drew { s with steps:=s.steps+1 } ka kc la lc g y):=by
                  have hg:=d.good;have bu:=hg.logs;have bx:=hg.len;have b8:=d.thr;exact⟨SpA.same (s:=s) (d.a.on (w':=(wc.setCell ⟨w.heap.size+1,6,none⟩ (.int .i64 ((s.steps:Int)+1))).drew) (fun b r=>hZ.block b (fun e=>by have:=d.lo b r;omega)) (by show _<=(wc.setCell _ _).heap.size;rw[uh];exact Nat.le_refl _)) rfl rfl rfl,by show s.st.length<=1000;omega,by show s.log.length<=1048576;omega,hg.last,by show 0<=s.at_;omega,by show s.at_<=1048576;omega,by show s.throws<=1048576;omega⟩
                have ac:=unq K L X Q Q' { s with steps:=s.steps+1 } ka la g kc lc y l (R q) sa sc ia il ic I most _ a6 (hs.later T.drew) (HI.later T.drew) az (Nat.le_trans (ak q aw) (by omega)) be
                rw[H]at ac;unfold stV at ac;simp only[hq,O.out,Int.natCast_add,Int.natCast_one]at ac;have a0:=ua ac;have a9:=ua hZ.drew;have bz:(q:Int)<(k:Int):=by omega
                rw[hq]at z;have b4:(s.steps:Int)<=50000:=by omega
                go_wp2;generalize wc.setCell ⟨w.heap.size+1,6,none⟩ (.int .i64 ((s.steps:Int)+1))=Y at *;obtain⟨zy,py,bm⟩:=Box.x ⟨82,BY⟩;generalize R q=x at *;go_region_law (refine ulc uph rfl (.tmp 66) (.tmp 71) (.tmp 72) (.tmp 73) 82 79 22 3 rfl (y1:=.agg #[.int .i64 (q:Int),.int .i64 (s.pos:Int),.slice ka s.st.length kc,.slice la s.log.length lc,.int .i64 (s.far:Int),.slice g y l,.int .i64 ((s.steps:Int)+1),.int .i64 (s.throws:Int),.bool false,.int .i64 s.code,.int .i64 s.label]) (y2:=.agg #[.int .i64 x.kind,.int .i64 x.arg,.int .i64 x.to,.slice sa x.sl sc]) (y3:=.slice ia il ic) (y4:=.int .i64 most) (by simp[Act.eval]) (by simp[Act.eval]) (by simp[Act.eval]) (by simp[Act.eval]) (a0.mono ?_);rintro e W ⟨bh,bi,bj,bk,bn,bp,bo,K2,L2,X2,rfl,an,ao,ap,aq,ag⟩;have BW:=ua ((ag.block _ bm (fun q=>by have:=d.lo _ (q.elim .inl (fun q=>.inr (.inl q)));omega)).trans BY);have C:Hid (∀u,Only (fun b=>b=w.heap.size+1) W u->u.heap[w.heap.size+1]? = some (.cells (uad B bh bi bj bk bn bp bo) 82)->ruI w t k R il I fuel most u/\2*(fuel.toNat-uf0 u (w.heap.size+1))+uf1 u (w.heap.size+1)<2*(fuel.toNat-uf0 wc (w.heap.size+1))+uf1 wc (w.heap.size+1)):=fun u F G=>uj1 d O a3 a9 ag F an ao ap aq G bb;obtain⟨zw,pw,cc⟩:=Box.x ⟨82,BW⟩;clear an ao ap aq ag;unfold stV;refine⟨_,rfl,?_⟩)
                all_goals go_wp2
                all_goals go_roundw
                all_goals first
                  |exact (C _ (yW _ _ _ _ _ _ _ _ _ _ _ _ _) (xG _ _ _ _ _ _ _ _ _ _ _ BW)).2
                  |exact (C _ (yW _ _ _ _ _ _ _ _ _ _ _ _ _) (xG _ _ _ _ _ _ _ _ _ _ _ BW)).1
                  | ((repeat apply Exists.intro);exact⟨(C _ (yW _ _ _ _ _ _ _ _ _ _ _ _ _) (xG _ _ _ _ _ _ _ _ _ _ _ BW)).1,rfl⟩)
        |true =>
          have a8:=d.ends.same hd;have ad:Hid (o=udV s):=by show _=_;rw[a5.out,a8]
          rw[hd]at z;have ax:=d.a.ex.1;have ab:=ua d.bel;have bw:s.log.length<=1048576:=by have:=d.good.logs;omega
          have a2:Hid (∀o,Src Tryz.prog 3 35 (.slice la s.log.length lc) s.log.length (uY s.log) (wr.alloc o)):=fun o=>upi (d.a.log.on (fun b r=>(uf wr o).block b (d.a.lt b (.inr (.inl r)))))
          obtain⟨x0,g0,lx⟩:=BR.x;by_cases ae:s.code=4\/s.code=3
          · have E:Hid (o=uac s.code):=by show _=_;rw[ad.out];exact if_pos ae
            have bc:(s.code==4)=true\/(s.code==4)=false/\(s.code==3)=true:=by by_cases e:s.code=4;exact .inl (by simp[e]);exact .inr ⟨by simp[e],by simp;omega⟩
            rcases bc with e | ⟨e,e'⟩
            all_goals
              go_wp2;refine bodyPost_ret (v:=ucK (uac s.code) none 0 none 0) ?_ rfl ?_
              · unfold ucK uac
                simp[results,Tryz.f7,go_sem, *]
              · rw[E.out]
                refine upf _ ?_
                repeat with_reducible first|exact ab.out | refine uo ?_ _ _ _ (by omega)
          · have e4:(s.code==4)=false:=by simp;omega
            have e3:(s.code==3)=false:=by simp;omega
            have E:Hid (o=⟨s.code,if s.code=0\/s.code=2 then (s.pos:Int) else 0,if s.code=2 then s.label else 0,s.far,y,lf (rg s.exp 256),s.steps,s.throws,if s.code=0 then s.log.length else 0,fun i=>s.log.getD i ⟨0,0,0⟩⟩):=by show _=_;rw[ad.out,ax];exact if_neg ae
            clear ae ax ad;by_cases m:s.code=0
            · have b0:(s.code==0)=true:=by simp[m]
              have b2:(s.code==2)=false:=by simp[m]
              rw[if_pos (.inl m),if_neg (by omega),if_pos m]at E
              have BO:=ua (uw wr #[.int .i64 s.code,.int .i64 (s.pos:Int),.int .i64 0,.int .i64 (s.far:Int),.slice g y l,.int .i64 (s.steps:Int),.int .i64 (s.throws:Int),.slice none 0 0] 37);have BA:=ua (BR.al (.cells #[.int .i64 s.code,.int .i64 (s.pos:Int),.int .i64 0,.int .i64 (s.far:Int),.slice g y l,.int .i64 (s.steps:Int),.int .i64 (s.throws:Int),.slice none 0 0] 37));clear m;go_wp2_with (at_builtin;refine usd rfl _ _ 35 35 rfl rfl rfl ufZ (Q:=fun _=>False) (.inl ⟨rfl,rfl,rfl⟩) (a2 _) (by omega) ?_;intro v4 W4 ah au bg;rw[Nat.zero_add]at ah;obtain⟨a4,c4,rfl⟩:=ul ah;have kg:=Grew.bel au;have ay:=ua (ud ab (ud (uf wr _) kg));obtain⟨zo,po,lo⟩:=(BO.on kg).x;obtain⟨zr,pr,lr⟩:=(BA.on kg).x;obtain⟨zx,px,cb⟩:=((BX.al _).on kg).x;unfold uad at zx;clear ah au bg kg)
              refine bodyPost_ret (v:=ucK o g l a4 c4) ?_ rfl ?_
              · rw[E.out]
                unfold ucK;simp[results,Tryz.f7,go_sem, *]
              · refine⟨g,l,a4,c4,rfl,?_⟩
                repeat with_reducible first|exact ay.out | refine uo ?_ _ _ _ (by omega)
            · have b0:(s.code==0)=false:=by simp[m]
              by_cases D:s.code=2
              · have b2:(s.code==2)=true:=by simp[D]
                rw[if_pos (.inr D),if_pos D,if_neg m]at E;go_wp2;refine bodyPost_ret (v:=ucK o g l none 0) ?_ rfl ?_
                · rw[E.out]
                  unfold ucK;simp[results,Tryz.f7,go_sem, *]
                · refine⟨g,l,none,0,rfl,?_⟩
                  refine ud ?_ (uf _ _)
                  repeat with_reducible first|exact ab.out | refine uo ?_ _ _ _ (by omega)
              · have b2:(s.code==2)=false:=by simp[D]
                rw[if_neg (by omega),if_neg D,if_neg m]at E
                go_wp2;refine bodyPost_ret (v:=ucK o g l none 0) ?_ rfl ?_
                · rw[E.out]
                  unfold ucK;simp[results,Tryz.f7,go_sem, *]
                · refine⟨g,l,none,0,rfl,?_⟩
                  refine ud ?_ (uf _ _)
                  repeat with_reducible first|exact ab.out | refine uo ?_ _ _ _ (by omega)
def ur1(t:Tp)(R j:Nat)(w:World)(e:Ending)(w':World):Prop:=∃f s:Int,e=.returned (.tuple #[.int .i64 f,.int .i64 s])/\RdOn t R j w w'
theorem uek t R i Q a n c P f il ic I w(h:∀b,Q b->b≠R/\b<w.heap.size)(z:InsA Q w a n P)(J:∀i,i<n->(P i).sl<=512)(F:n<=1048576)(B:Ints Q .u8 w f il I)(A:Byt il I)(E:il<=1048576)(C:RdA t R w i) :
  Calls Tryz.prog 20 #[.slice a n c,.slice f il ic,.pointer (some ⟨R,0,none⟩)] w (ur1 t R (t.n (t.n i)) w):=by
 have V:=t.v_le i;have X:=t.v_le (t.n i);have u:Hid (∀W,Keep (λx=>x=R) w W->∃o,Calls Tryz.prog 7 #[.slice a n c,.slice f il ic,.int .i64 20000,.int .i64 200] W (unr o W)):=λW j=>by
  obtain⟨o,G⟩:=uht n P il I 20000 200;have st:=j.stay (λb q=>⟨(h b q).2,(h b q).1⟩);exact⟨o,uhw Q Q a n c P f il ic I 20000 200 o W (z.on st) ⟨by omega,by omega,by omega,by omega,J⟩ F (B.on st) A E G⟩
 go_enter Tryz.func20,Tryz.ntmps20;go_wp2_with fail;refine(uu t R i w C).mono ?_;rintro e W1 ⟨rfl,g⟩;go_wp2_with fail;refine(uu t R _ W1 g.1).mono ?_;rintro e W2 ⟨rfl,y⟩;have d:=ua (g.trans y);generalize t.v i=l at *;generalize t.v (t.n i)=p at *;obtain⟨k,j⟩:=nm (l%10);have hk':(l:Int)%10=(k:Int):=by omega
 have S:k<10:=by omega
 obtain⟨m,T⟩:=nm (p%4);have hm':(p:Int)%4=(m:Int):=by omega
 have U:m<4:=by omega
 go_upto_if 19 with fail;try simp only[hk']
 rcases(by omega:k<5\/k=5\/k=6\/k=7\/k=8\/k=9) with q|rfl|rfl|rfl|rfl|rfl
 ·have q':(k:Int)<5:=by omega
  go_wp2;refine bodyPost_ret (by simp[results,Tryz.f20,go_sem];rfl) rfl ?_;exact⟨_,_,rfl,d⟩
 ·go_wp2;refine bodyPost_ret (by simp[results,Tryz.f20,go_sem];rfl) rfl ?_;exact⟨_,_,rfl,d⟩
 ·go_wp2;refine bodyPost_ret (by simp[results,Tryz.f20,go_sem];rfl) rfl ?_;exact⟨_,_,rfl,d⟩
 ·rcases(by omega:m=0\/m=1\/m=2\/m=3) with rfl|rfl|rfl|rfl;all_goals
   go_wp2;refine bodyPost_ret (by simp[results,Tryz.f20,go_sem];rfl) rfl ?_;exact⟨_,_,rfl,d.quiet (Keep.alloc _ _ _)⟩
 ·rcases(by omega:m=0\/m=1\/m=2\/m=3) with rfl|rfl|rfl|rfl;all_goals
   go_wp2;go_quiet (fail);go_wp2;refine bodyPost_ret (by simp[results,Tryz.f20,go_sem];rfl) rfl ?_;exact⟨_,_,rfl,(d.quiet (Keep.alloc _ _ _)).quiet (uaG _ _)⟩
 obtain⟨o,H⟩:=u W2 d.2;have r:=ua H;go_wp2_with fail;refine r.mono ?_;rintro e L ⟨N,O,Y,Z,rfl,D⟩;have s:=ua (d.quiet (vR D));unfold ucK;go_wp2;refine bodyPost_ret (by simp[results,Tryz.f20,go_sem];rfl) rfl ?_;exact⟨_,_,rfl,s.quiet (Keep.alloc _ _ _)⟩
end Go.Proofs.YtpghlcdkfldlpaaGreat
