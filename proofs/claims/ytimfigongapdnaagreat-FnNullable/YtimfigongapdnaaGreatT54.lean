import Derived.Test.YtimfigongapdnaaGreatT53
import Derived.Test.YtimfigongapdnaaGreatT48
import Derived.Test.YtimfigongapdnaaGreatT49
import Derived.Test.YtimfigongapdnaaGreatT38
import Derived.Test.YtimfigongapdnaaGreatT39
set_option linter.unusedVariables false
set_option linter.unusedSimpArgs false
set_option maxHeartbeats 40000000
set_option maxRecDepth 100000
namespace Go.Proofs.YtimfigongapdnaaGreat
open Go.RowKit
theorem unz M:∀b,(cl M b).length<=2*b
 |0=>Nat.le_refl _
 |b+1=>by
  have:=unz M b;rw[cl];split
  ·split
   ·rw[List.length_append,List.length_dropLast,List.length_singleton];omega
   rw[List.length_append];simp;omega
  omega
theorem ulm{w0 w1 v l}z y ty(h:OwnL w0 w1 v l)(A:Soft w0 w1)(C:l.length<=4194304) :
  ∃f w',(Builtin.append_ #[36,36] ty #[v,.slice (some ⟨w1.heap.size,0,none⟩) 2 2]).run Tryz.prog (w1.alloc (.cells #[.int .i64 z,.int .i64 y] 3))=.ok f w'/\OwnL w0 w' f (l++[z,y])/\Soft w0 w':=by
 obtain⟨P,s,i,c⟩:=h;have b1:=ui w1 (.cells #[.int .i64 z,.int .i64 y] 3);have x:Src Tryz.prog 1 36 (.slice (some ⟨w1.heap.size,0,none⟩) 2 2) 2 [.int .i64 z,.int .i64 y] (w1.alloc (.cells #[.int .i64 z,.int .i64 y] 3)):=by
  refine Src.ofSlice (P:=Tryz.prog) _ Tryz.underlying36 ⟨w1.heap.size,0,none⟩ 2 2 [.int .i64 z,.int .i64 y] rfl (λj u a=>?_) (λu a=>?_)
  ·match j,a with
   |0,a=>simpa[Addr.add] using (cN w1.heap.size rfl a:(w1.alloc (.cells #[.int .i64 z,.int .i64 y] 3)).cell? ⟨w1.heap.size,0,none⟩=some u)
   |1,a=>simpa[Addr.add] using (cN w1.heap.size rfl a:(w1.alloc (.cells #[.int .i64 z,.int .i64 y] 3)).cell? ⟨w1.heap.size,1,none⟩=some u)
   |j+2,a=>simp at a
  simp at a;rcases a with rfl|rfl<;>rfl
 obtain⟨f,w',w,B,d,F⟩:=ym ty elem36 (s.on (λb c=>b1.block b (i b c).2)) x (by omega) (λ_=>by omega);refine⟨f,w',w,⟨λb=>(P b\/(w1.alloc (.cells #[.int .i64 z,.int .i64 y] 3)).heap.size<=b)/\b<w'.heap.size,?_,?_,?_⟩,(A.trans (qf w1 _ 3) b1).grew d⟩
 ·have e:vE (l++[z,y])=vE l++[.int .i64 z,.int .i64 y]:=by simp[vE]
  rw[e,List.length_append];show OwnC _ _ _ _ (l.length+2) _;rcases B with q|⟨g,cap,e,t,n,o,p,k⟩
  ·exact .inl q
  refine .inr ⟨g,cap,e,⟨t,?_⟩,n,o,p,k⟩;obtain⟨u,a⟩:=Option.isSome_iff_exists.1 (k 0 (by omega)).1;exact ud a
 ·rintro b ⟨q|q,m⟩
  ·exact⟨(i b q).1,m⟩
  have:=c.size;have:=b1.size;exact⟨by omega,m⟩
 have D:=c.size;have E:=b1.size;exact⟨d.os.trans (b1.os.trans c.os),d.tape.trans (b1.tape.trans c.tape),d.output.trans (b1.output.trans c.output),by have:=d.size;omega,λb r=>(d.block b (by omega) (λq=>by have:=(i b q).1;omega)).trans ((b1.block b (by omega)).trans (c.block b r))⟩
theorem unA{ops:Array Oper}{rest:List Oper}{o:Oper}{a:Act}{f:Exit->Act->World->Prop}(m:o.guard=none)(s x:Operand)(p:o.op=.call { callee:=.builtin .append,args:=#[s,x],argTypes:=#[36,36] })
  {w0 w1:World} {v:Value} {l:List Int} {z y:Int} (r:a.eval s=v) (u:a.eval x=.slice (some ⟨w1.heap.size,0,none⟩) 2 2) (h:OwnL w0 w1 v l) (t:Soft w0 w1) (n:l.length<=4194304)
  (k:∀w' d e b c,Hid (d=l++[z,y])->Hid (e=d.length)->Hid (OwnL w0 w' (.slice b e c) d)->Hid (Soft w0 w')->wpList Tryz.prog ops f rest (a.put o.dst (.slice b e c)) w'):wpList Tryz.prog ops f (o::rest) a (w1.alloc (.cells #[.int .i64 z,.int .i64 y] 3)):=by
 refine wpList_plain m λK i=>?_
 obtain⟨w,w',q,g,j⟩:=ulm z y o.type h t n;obtain⟨b,c,rfl⟩:=g.shape;unfold Oper.wp execOp;simp only[p,resolve,invoke,builtin,Sem.run_bind,Sem.run_pure,Result.andThen_ok,List.map_toArray,List.map_cons,List.map_nil,r,u,q];exact i _ _ (k w' (l++[z,y]) _ b c rfl rfl g j)
theorem ufb{w0 w a c j X x}(h:OwnL w0 w (.slice a (j+1) c) (X++[x]))(v:X.length=j) :
  ∃g,a=some ⟨g,0,none⟩/\w0.heap.size<=g/\g<w.heap.size/\w.cell? ⟨g,j,none⟩=some (.int .i64 x)/\w.frozen? ⟨g,j,none⟩=false/\∀y:Int,OwnL w0 (w.setCell ⟨g,j,none⟩ (.int .i64 y)) (.slice (some ⟨g,0,none⟩) (j+1) c) (X++[y]):=by
 subst v;obtain⟨P,A,f,t⟩:=h;have F:(X++[x]).length=X.length+1:=by simp
 rcases A with⟨_,e,_⟩|⟨g,cap,e,k,D,E,r,s⟩
 ·omega
 injection e with e1 e2 e3;subst e3;have l:vE (X++[x])=vE X++[.int .i64 x]:=by simp[vE]
 have d:(vE X).length=X.length:=by simp[vE]
 have n:w.cell? ⟨g,X.length,none⟩=some (.int .i64 x):=by
  rw[r X.length (by rw[l];simp[d]),l,List.getElem?_append_right (by omega),d];simp
 refine⟨g,e1,(f g k).1,(f g k).2,n,(s X.length (by omega)).2,λy=>⟨P,?_,λb q=>by rw[uj];exact f b q,?_⟩⟩
 ·have m:vE (X++[y])=vE X++[.int .i64 y]:=by simp[vE]
  have z:(X++[y]).length=X.length+1:=by simp
  rw[z];refine .inr ⟨g,c,rfl,k,by rw[m];simp[d],by omega,λi o=>?_,λi o=>?_⟩
  ·rw[m,List.length_append,d,List.length_singleton]at o;by_cases e:i=X.length
   ·subst e;rw[uu n,m,List.getElem?_append_right (by omega),d];simp
   rw[um (λq=>e q.symm),r i (by rw[l];simp[d];omega),l,m,List.getElem?_append_left (by omega),List.getElem?_append_left (by omega)]
  obtain⟨B,C⟩:=s i o;refine⟨?_,(World.frozen?_setCell _ _ _ _).trans C⟩;by_cases e:i=X.length
  ·subst e;rw[uu n];rfl
  rw[um (λq=>e q.symm)];exact B
 have u:=(f g k).1;exact t.setCell (p:=⟨g,X.length,none⟩) u _
def uiU(l:List Int)(w:World)(e:Ending)(w':World):Prop:=∃a c,e=.returned (.slice a l.length c)/\OwnL w w' (.slice a l.length c) l/\Soft w w'
def clI(w:World)(M:Nat->Bool)(b a:Value)(wr:World):Prop:=∃k:Nat,k<=256/\a=.int .i64 (k:Int)/\OwnL w wr b (cl M k)/\Soft w wr
theorem uj7:(Tryz.prog.info? 92).map (·.size)=some 256:=by kernel_rfl
theorem unB:(Tryz.prog.info? 4).map (·.size)=some 1:=by kernel_rfl
theorem uln a(k:Nat)v w(f:k<256)(e:a[k]?=some v):(Instr.index 92 (.agg a) (.int .i64 (k:Int))).run Tryz.prog w=.ok v w:=by
 obtain⟨j,c,d⟩:=Option.map_eq_some_iff.1 unB;have b:(k:Int)<256:=by omega
 simp[Instr.index,asIntOf,run_underlying Tryz.underlying92,run_underlying Tryz.underlying4,Go.part,isAgg,sizeOf,typeInfo,c,d,b,e];intro q;omega
theorem uf4 o M w(hs:o.size=256)(hM:∀i,i<256->o[i]?=some (.bool (M i))) :
  Calls Tryz.prog 81 #[.agg o,.bool true] w (uiU (rg M 256) w):=by
 have S:=ua hM;have R:Hid (∀e w',uiU (cl M 256) w e w'->uiU (rg M 256) w e w'):=λe w' h=>by rw[ufl];exact h
 go_enter Tryz.func81,Tryz.ntmps81;go_wp2;refine wp_load_mid 92 (.tmp 2) rfl w.heap.size 0 rfl o.toList (.array 256 4) (λj v hv=>?_) Tryz.underlying92 rfl (by rw[Array.length_toList,hs];exact uj7) ?_
 ·rw[Nat.zero_add];exact ul (yK w _ _ rfl) (by simpa using hv)
 rw[Array.toArray_toList];go_wp2;go_loopw [5,9] (λP B wr=>clI w M P B wr) (λP B _=>256-(intOf B).toNat)
 case atStart=>exact⟨0,by omega,rfl,OwnL.nil (ui w _),qf w _ 92⟩
 case round =>
  obtain⟨k,hk,rfl,a,aa⟩:=hrel;have m:=ua aa;obtain⟨N,O,rfl⟩:=a.shape;have ag:=unz M k;obtain⟨r,H⟩:=nm ((cl M k).length);rw[H]at a ag ⊢;have c:=ua a;have b:=ua H;by_cases G:k<256
  ·have hlt':(k:Int)<256:=(by omega);have F:=λw=>uln o k _ w G (S k G)
   have p:cl M (k+1)=(if M k=true then (if k≠0/\M (k-1)=true then (cl M k).dropLast++[(k:Int)] else cl M k++[(k:Int),(k:Int)]) else cl M k):=rfl;cases D:M k with
   |false =>
    rw[D]at p F;have d:Hid (cl M (k+1)=cl M k):=(by show _=_;rw[p];simp);go_wp2;go_roundw
    case rel=>exact⟨k+1,by omega,by go_num,by rw[d.out];exact c,m⟩
    case measure=>simp[intOf];omega
   |true =>
    rw[D]at p F;obtain⟨ae,af⟩:=ugk M k;by_cases t:k≠0/\M (k-1)=true
    ·have d:Hid (cl M (k+1)=(cl M k).dropLast++[(k:Int)]):=(by show _=_;rw[p,if_pos rfl,if_pos t]);obtain⟨X,E⟩:=nm ((cl M k).dropLast);have f:cl M k=X++[(k:Int)-1]:=by
      rw[<-E];have:=ae t;rw[List.getLast?_eq_some_iff]at this;obtain⟨ys,hy⟩:=this;rw[hy];simp
     obtain⟨j,rfl⟩:∃j,r=j+1:=⟨r-1,by have:=b.out;rw[f,List.length_append,List.length_singleton]at this;omega⟩;have s:X.length=j:=(by have:=b.out;rw[f,List.length_append,List.length_singleton]at this;omega);have a:=c;rw[f]at a;obtain⟨g,rfl,g1,g2,A,Z,I⟩:=ufb a s;have T:=ua I;have U:Hid (cl M (k+1)=X++[(k:Int)]):=(by show _=_;rw[d.out,E]);have ah:=ua s;have ab:(0:Int)<((j+1:Nat):Int):=(by omega);have Y:((j+1:Nat):Int)-1=(j:Int):=(by omega);have ad:(j:Int)<((j+1:Nat):Int):=(by omega);have ac:j<=512:=(by omega);go_wp2;go_roundw
     case rel=>exact⟨k+1,by omega,by go_num,by rw[U.out];exact T _,m.set _ _⟩
     case measure=>simp[intOf];omega
    have d:Hid (cl M (k+1)=cl M k++[(k:Int),(k:Int)]):=(by show _=_;rw[p,if_pos rfl,if_neg t]);rcases Nat.eq_zero_or_pos r with C|C
    ·subst C;go_wp2_with (at_builtin;refine unA (l:=cl M k) rfl _ _ rfl rfl rfl c.out m.out (by rw[b.out];omega) ?_;intro W L n V A u Q y z);go_roundw
     case rel=>exact⟨k+1,by omega,by go_num,by rw[d.out];exact u.out▸y.out,z.out⟩
     case measure=>simp[intOf];omega
    obtain⟨j,rfl⟩:∃j,r=j+1:=⟨r-1,by omega⟩;obtain⟨x,J⟩:∃x,(cl M k).getLast? = some x:=by
     cases q:(cl M k).getLast? with
     |none=>rw[List.getLast?_eq_none_iff]at q;have:=b.out;rw[q]at this;simp at this
     |some x=>exact⟨x,rfl⟩
    have aj:=(af x J).2 t;obtain⟨X,f⟩:=List.getLast?_eq_some_iff.1 J;have s:X.length=j:=(by have:=b.out;rw[f,List.length_append,List.length_singleton]at this;omega);have a:=c;rw[f]at a;obtain⟨g,rfl,g1,g2,A,Z,I⟩:=ufb a s;have ai:(x==(k:Int)-1)=false:=(by simp;omega);have ab:(0:Int)<((j+1:Nat):Int):=(by omega);have Y:((j+1:Nat):Int)-1=(j:Int):=(by omega);have ad:(j:Int)<((j+1:Nat):Int):=(by omega);have ac:j<=512:=(by omega);go_wp2_with (at_builtin;refine unA (l:=cl M k) rfl _ _ rfl rfl rfl c.out m.out (by rw[b.out];omega) ?_;intro W L n V A u Q y z);go_roundw
    case rel=>exact⟨k+1,by omega,by go_num,by rw[d.out];exact u.out▸y.out,z.out⟩
    case measure=>simp[intOf];omega
  obtain rfl:k=256:=by omega
  go_wp2;go_ret;refine R _ _ ⟨N,O,congrArg (λn=>Ending.returned (.slice N n O)) b.symm,?_,m⟩;rw[b.out];exact c
open M (OpD ug Gr ur)
def exL(M:Nat->Bool):List Value:=(List.range 256).map (λi=>.bool (M i))
theorem uj4 M:(exL M).length=256:=by simp[exL]
theorem uj5 M{i}(h:i<256):(exL M)[i]?=some (.bool (M i)):=by simp[exL,h]
theorem ulk{w b s d il ic most ka e kc la ln lc}(h:MacC w b s d il ic most ka e kc la ln lc):w.rangeAt b 7 (exL s.exp):=λj v a=>by
 have c:j<256:=by have:=(List.getElem?_eq_some_iff.1 a).1;rw[uj4]at this;exact this
 rw[uj5 _ c]at a;cases a;exact h.ex j c
theorem Box.s8{w b k l m c3 n o p q}(h:Box w b #[k,l,m,c3,n,o,p,q])a c d f v4 g i j:Box ((((((((w.setCell ⟨b,0,none⟩ a).setCell ⟨b,1,none⟩ c).setCell ⟨b,2,none⟩ d).setCell ⟨b,3,none⟩ f).setCell ⟨b,4,none⟩ v4).setCell ⟨b,5,none⟩ g).setCell ⟨b,6,none⟩ i).setCell ⟨b,7,none⟩ j) b #[a,c,d,f,v4,g,i,j]:=by
 have e:=(((((((h.set 0 a).set 1 c).set 2 d).set 3 f).set 4 v4).set 5 g).set 6 i).set 7 j;simp only[List.setIfInBounds_toArray,List.set_cons_zero,List.set_cons_succ]at e;exact e
theorem Box.c8{w b a c d c3 e f g i}(h:Box w b #[a,c,d,c3,e,f,g,i]):w.cell? ⟨b,0,none⟩=some a/\w.cell? ⟨b,1,none⟩=some c/\w.cell? ⟨b,2,none⟩=some d/\w.cell? ⟨b,3,none⟩=some c3/\w.cell? ⟨b,4,none⟩=some e/\w.cell? ⟨b,5,none⟩=some f/\w.cell? ⟨b,6,none⟩=some g/\w.cell? ⟨b,7,none⟩=some i/\∀o,w.frozen? ⟨b,o,none⟩=false:=let ⟨z,p,_⟩:=h.x;⟨z 0,z 1,z 2,z 3,z 4,z 5,z 6,z 7,p⟩
def oC(a f lb e:Int)(b:Option Addr)(d c:Nat)(st g:Int)(h:Option Addr)(j i:Nat):Array Value:=#[.int .i64 a,.int .i64 f,.int .i64 lb,.int .i64 e,.slice b d c,.int .i64 st,.int .i64 g,.slice h j i]
def usT(a:Int)(pos:Nat)(w:World)(e:Ending)(w':World):Prop:=∃b lb g c f d st h i k j,e=.returned (.agg (oC a b lb g c f d st h i k j))/\(a=0->b=(pos:Int))/\Below w.heap.size w w'
theorem uhy(K L:Nat->Prop)(b:Nat)(u:MSt)(U:Option Addr)(il ic:Nat)(most:Int)(ka:Option Addr)(kc:Nat)(la:Option Addr)(lc:Nat)(d:Int)(w:World)(J:MacA K L w b u U il ic most ka kc la lc) :
  Calls Tryz.prog 41 #[.pointer (some ⟨b,0,none⟩),.int .i64 d] w (usT d u.pos w):=by
 have lb:=J.bl;have F:=ua (ux w #[.int .i64 0,.int .i64 0,.int .i64 0,.int .i64 0,.slice none 0 0,.int .i64 0,.int .i64 0,.slice none 0 0] 39);have G:=ua (ui w (.cells #[.int .i64 0,.int .i64 0,.int .i64 0,.int .i64 0,.slice none 0 0,.int .i64 0,.int .i64 0,.slice none 0 0] 39));have o:=ua (J.later G);by_cases I:d=4\/d=3
 ·have R:(d==4)=true\/(d==4)=false/\(d==3)=true:=by by_cases e:d=4;exact .inl (by simp[e]);exact .inr ⟨by simp[e],by simp;omega⟩
  have t:Hid (d=0->(0:Int)=(u.pos:Int)):=λe=>by omega
  clear I;rcases R with e|⟨e,e'⟩;all_goals
   go_enter Tryz.func41,Tryz.ntmps41;go_wp2;refine bodyPost_ret (v:=.agg (oC d 0 0 0 none 0 0 0 0 none 0 0)) ?_ rfl ⟨_,_,_,_,_,_,_,_,_,_,_,rfl,t.out,?_⟩
   ·unfold oC;simp[results,Tryz.f41,go_sem, *]
   exact ui w _
 have f4:(d==4)=false:=by simp;omega
 have f3:(d==3)=false:=by simp;omega
 clear I;go_enter Tryz.func41,Tryz.ntmps41;go_upto_region 3 with fail;generalize w.alloc _=X at *;have lX:=F.x.2.2;obtain⟨EX,D⟩:=nm (exL u.exp);have N:=D▸uj4 _;have ad:=Tryz.underlying92;have aa:(Tryz.prog.info? 92).map (·.size)=some EX.length:=by rw[N];exact uj7
 have P:Hid (∀W,Calls Tryz.prog 81 #[.agg EX.toArray,.bool true] W (λe q=>∃a n c,e=.returned (.slice a n c)/\Below W.heap.size W q)):=λW=>(uf4 EX.toArray u.exp W (by simp[N]) (λi S=>by rw[List.getElem?_toArray,<-D];exact uj5 _ S)).mono (λe q ⟨a,c,h,Q,_⟩=>⟨a,_,c,h,Q.bel⟩)
 have H:Hid (∀W,Below X.heap.size X W->W.cell? ⟨b,6,none⟩=some (.int .i64 (u.far:Int))/\W.cell? ⟨b,263,none⟩=some (.int .i64 (u.steps:Int))/\W.cell? ⟨b,264,none⟩=some (.int .i64 (u.throws:Int))/\W.rangeAt b 7 EX):=λW A=>⟨ue o.c.c6 A,ue o.c.c8 A,ue o.c.c9 A,λj v T=>ue (ulk o.c j v (D▸T)) A⟩
 obtain⟨V,Y,Z,ac⟩:=H X (Below.refl _ _);go_cut [5] (λv wc=>∃r g m k,v=.pointer (some ⟨r,0,none⟩)/\Box wc r (oC d 0 0 u.far g m k u.steps u.throws none 0 0)/\Below X.heap.size X wc/\X.heap.size<=r)
 case first =>
  go_region_held3 (λq=>q.cell? ⟨b,6,none⟩=some (.int .i64 (u.far:Int))/\q.cell? ⟨b,263,none⟩=some (.int .i64 (u.steps:Int))/\q.cell? ⟨b,264,none⟩=some (.int .i64 (u.throws:Int))/\q.rangeAt b 7 EX)
   ((refine H.out _ ?_;repeat with_reducible first|exact s.out|exact Below.refl _ _|refine Below.drew ?_|refine uK ?_ _ _ _ (Nat.le_refl _)|refine uf ?_ (ui _ _)))
   ((go_at_call 81;(with_reducible refine(P.out _).mono ?_);rintro e W ⟨g,m,k,rfl,f⟩;have s:Hid (Below X.heap.size X W):=(by first|exact uf (Below.refl _ X).drew f|exact uf (ui X _).drew f);try (have E:Hid (Box W X.heap.size #[.int .i64 0,.int .i64 0,.int .i64 0,.int .i64 0,.slice none 0 0,.int .i64 0,.int .i64 0,.slice none 0 0]):=⟨39,(f.block X.heap.size (by show _<(X.alloc _).heap.size;simp)).trans (World.alloc_heap_new X _)⟩;obtain⟨r0,r1,r2,r3,r4,r5,r6,r7,pk⟩:=E.c8);clear f))
  all_goals go_wp2
  ·go_meet;exact⟨_,g,m,k,rfl,ux _ _ _,uf s (ui _ _),s.size⟩
  go_meet;refine⟨_,g,m,k,rfl,E.s8 _ _ _ _ _ _ _ _,?_,Nat.le_refl _⟩;repeat with_reducible first|exact s.out|refine uK ?_ _ _ _ (Nat.le_refl _)
 case rest =>
  obtain⟨r,g,m,k,rfl,O,f,ab⟩:=hcut;have m3:=ue o.c.c3 f;have m5:=ue o.c.c5 f;have ae:=ue o.c.c10 f;obtain⟨z,p,l⟩:=O.x;unfold oC at z;obtain⟨zr,pr,lr⟩:=(F.on f).x;have B:=ua (uf G f);have af:r≠w.heap.size:=by omega
  have ag:b≠r:=by omega
  have ah:b≠w.heap.size:=by omega
  by_cases y:d=0
  ·subst y;go_wp2;go_region;all_goals
    go_wp2;refine bodyPost_ret (v:=.agg (oC 0 u.pos 0 u.far g m k u.steps u.throws la u.log.length lc)) ?_ rfl ⟨_,_,_,_,_,_,_,_,_,_,_,rfl,λ_=>rfl,?_⟩
    ·unfold oC;simp[results,Tryz.f41,go_sem, *]
    repeat with_reducible first|exact B.out|refine Below.drew ?_|refine uK ?_ _ _ _ (by omega)
  have f0:(d==0)=false:=by simp[y]
  have t:=ua y;by_cases C:d=2
  ·subst C;go_wp2;go_region;all_goals
    go_wp2;refine bodyPost_ret (v:=.agg (oC 2 u.pos u.label u.far g m k u.steps u.throws none 0 0)) ?_ rfl ⟨_,_,_,_,_,_,_,_,_,_,_,rfl,λe=>absurd e t.out,?_⟩
    ·unfold oC;simp[results,Tryz.f41,go_sem, *]
    repeat with_reducible first|exact B.out|refine Below.drew ?_|refine uK ?_ _ _ _ (by omega)
  have f2:(d==2)=false:=by simp[C]
  clear y C;go_wp2;refine bodyPost_ret (v:=.agg (oC d 0 0 u.far g m k u.steps u.throws none 0 0)) ?_ rfl ⟨_,_,_,_,_,_,_,_,_,_,_,rfl,λe=>absurd e t.out,?_⟩
  ·unfold oC;simp[results,Tryz.f41,go_sem, *]
  repeat with_reducible first|exact B.out|refine Below.drew ?_|refine uK ?_ _ _ _ (by omega)
def mac0:Array Value:=#[.slice none 0 0,.int .i64 0,.int .i64 0,.int .i64 0,.slice none 0 0,.slice none 0 0,.int .i64 0]++(madeCells #[.bool false] 256++#[.int .i64 0,.int .i64 0,.int .i64 0])
theorem uj0:(Tryz.prog.info? 94).map (λi=>(i.zero,i.size))=some (some (.agg mac0),266):=by kernel_rfl
theorem xU:mac0.size=266:=by simp[mac0,size_madeCells]
theorem unh{i}(h:i<256):mac0[7+i]?=some (.bool false):=by
 unfold mac0;rw[Array.getElem?_append_right (by simp),Array.getElem?_append_left (by simp[size_madeCells];omega)];have e:7+i-(#[.slice none 0 0,.int .i64 0,.int .i64 0,.int .i64 0,.slice none 0 0,.slice none 0 0,.int .i64 0]:Array Value).size=i:=by simp
 rw[e];exact udK h
def ubz(a:Option Addr)(il ic:Nat)(most:Int):Array Value:=(mac0.setIfInBounds 0 (.slice a il ic)).setIfInBounds 1 (.int .i64 most)
theorem ue9 a il ic most:(ubz a il ic most).size=266:=by unfold ubz;simp[xU]
theorem uni b il ic most{j v}(c:j≠0)(d:j≠1)(a:mac0[j]?=some v):(ubz b il ic most)[j]?=some v:=by
 unfold ubz;rw[Array.getElem?_setIfInBounds_ne (by omega),Array.getElem?_setIfInBounds_ne (by omega)];exact a
theorem ulg(W:World)(b:Option Addr)(il ic:Nat)(most:Int):MacA (λ_=>False) (λ_=>False) (W.alloc (.cells (ubz b il ic most) 94)) W.heap.size s0 b il ic most none 0 none 0:=by
 have a:=yK W (.cells (ubz b il ic most) 94) _ rfl;have g:=λ(j:Nat) (v:Value) (c:j≠0) (d:j≠1) (f:mac0[j]?=some v)=>ul (j:=j) a (uni b il ic most c d f)
 refine⟨⟨ul (j:=0) a ?_,ul (j:=1) a ?_,g 2 _ (by decide) (by decide) (by kernel_rfl),g 3 _ (by decide) (by decide) (by kernel_rfl),g 4 _ (by decide) (by decide) (by kernel_rfl),g 5 _ (by decide) (by decide) (by kernel_rfl),g 6 _ (by decide) (by decide) (by kernel_rfl),λi e=>g (7+i) _ (by omega) (by omega) (unh e),g 263 _ (by decide) (by decide) (by kernel_rfl),g 264 _ (by decide) (by decide) (by kernel_rfl),g 265 _ (by decide) (by decide) (by kernel_rfl),λj=>uy a⟩,.inl ⟨rfl,rfl,rfl⟩,.inl ⟨rfl,rfl,rfl⟩,λx k=>(k.elim id id).elim,λx h=>h.elim,id,id⟩
 ·unfold ubz;rw[Array.getElem?_setIfInBounds_ne (by decide)];simp[xU]
 unfold ubz;simp[xU]
theorem ulh(W:World)(b:Option Addr)(il ic:Nat)(most:Int):(storeCells ⟨W.heap.size,0,none⟩ ((mac0.toList.set 0 (.slice b il ic)).set 1 (.int .i64 most))).run Tryz.prog (W.alloc (.cells mac0 94))=.ok () (W.alloc (.cells (ubz b il ic most) 94)):=by
 have c:mac0.all Value.oneCell'=true:=by kernel_rfl
 have h:=run_storeCells_new (P:=Tryz.prog) W 94 mac0 (ubz b il ic most) (by rw[ue9];exact(zero_of_info (P:=Tryz.prog) uj0).2) (by rw[xU,ue9]) (by
  rw[Array.all_eq_true_iff_forall_mem];intro v a;rcases Array.mem_or_eq_of_mem_setIfInBounds a with a|rfl
  ·rcases Array.mem_or_eq_of_mem_setIfInBounds a with a|rfl
   ·exact Array.all_eq_true_iff_forall_mem.1 c v a
   rfl
  rfl)
 have e:(ubz b il ic most).toList=(mac0.toList.set 0 (.slice b il ic)).set 1 (.int .i64 most):=by unfold ubz;simp
 rw[e]at h;exact h
theorem unj(Q Q':Nat->Prop)(a:Option Addr)(n c:Nat)(R:Nat->ur)(d:Option Addr)(il ic:Nat)(I:Nat->Int)(fuel most:Int)(t:MSt)(w:World)(B:InsA Q w a n R)(G:ukk n R fuel most)(H:n<=1048576)(E:Ints Q' .u8 w d il I)(C:Byt il I)(ab:il<=1048576)(D:Ends n R il I fuel most s0 t)(N:∀y,Q y->y<w.heap.size)(O:∀y,Q' y->y<w.heap.size) :
  Calls Tryz.prog 9 #[.slice a n c,.slice d il ic,.int .i64 fuel,.int .i64 most] w (usT t.code t.pos w):=by
 have u:=ua B;have V:=ua E;have f:=ua G;have T:=ua C;have U:=ua D;have A:=ua N;have HQ':=ua O;have hz:=(zero_of_info (P:=Tryz.prog) uj0).1;have j:=ua (ux w #[.int .i64 0,.int .i64 0,.int .i64 0,.int .i64 0,.slice none 0 0,.int .i64 0,.int .i64 0,.slice none 0 0] 39);clear B E G C D N O;go_enter Tryz.func9,Tryz.ntmps9;go_wp2_with fail;refine(uiN fuel most _).mono ?_;rintro e W ⟨rfl,hW⟩;subst W;rw[show decide (0<=fuel/\fuel<=50000/\0<=most/\most<=1000)=true from decide_eq_true ⟨f.out.f0,f.out.f1,f.out.m0,f.out.m1⟩];go_wp2_with fail;refine(uf3 Q a n c R _ (u.later (ui w _)) H (λi s=>Nat.le_trans (f.sets i s) (by omega))).mono ?_;rintro e W ⟨⟨r,rfl,S⟩,o⟩;have k:=ua (uf (ui w _) o);replace j:=ua (j.on o);have ai:=j.x.2.2;cases r with
 |true=>obtain⟨i,s,hl⟩:=S.1 rfl;have:=f.sets i s;omega
 |false =>
  have ae:=xU;have ad:¬mac0=#[]:=λh=>by have l:=xU;rw[h]at l;cases l
  have af:=ulh W d il ic most;have b:=ua (ui W (.cells (ubz d il ic most) 94));have aa:=ua (ulg W d il ic most);clear o S;go_wp2_with fail;generalize W.alloc (.cells (ubz d il ic most) 94)=X at *;clear af ae ad hz;refine(unE Q Q' W.heap.size a n c R d il ic I fuel most t X aa ((u.later k).later b) H ((V.later k).later b) T ab f U (λq=>by have:=A _ q;omega) (λy q=>by have h1:=A y q;have l:=b.size;omega) (λq=>by have:=HQ' _ q;omega) (λy q=>by have h1:=HQ' y q;have l:=b.size;omega)).mono ?_;rintro e W2 ⟨rfl,z,st,ka,kc,la,lc,K,L,F,ac,g⟩;have ah:=b.size;have ag:=g.size;have Y:=ua F;replace j:=ua (((j.on b).blk (g.block _ (by omega) (by omega))));have m:Hid (Below w.heap.size w W2):=⟨g.os.trans (b.os.trans k.os),g.tape.trans (b.tape.trans k.tape),g.output.trans (b.output.trans k.output),by omega,λx hx=>(g.block x (by omega) (by omega)).trans ((b.block x (by omega)).trans (k.block x hx))⟩;clear F ac g;go_wp2_with fail;refine(uhy K L W.heap.size { t with at_:=z,st:=st } d il ic most ka kc la lc t.code W2 Y).mono ?_;rintro e W3 ⟨ps,lb,fa,ea,en,ec,su,th,va,vn,vc,rfl,J,p⟩;replace m:=ua (uf m p);obtain⟨zr,pr,lr⟩:=(j.on p).x;have Z:=ua J;clear p J;unfold oC;go_wp2;refine bodyPost_ret (v:=.agg (oC t.code ps lb fa ea en ec su th va vn vc)) ?_ rfl ⟨_,_,_,_,_,_,_,_,_,_,_,rfl,Z.out,?_⟩
  ·unfold oC;simp[results,Tryz.f9,go_sem, *]
  repeat with_reducible first|exact m.out|refine uK ?_ _ _ _ (Nat.le_refl _)
open M (EX ins)
theorem udP{nr e}mk:∀T:TR,T.Ok (M.ElemOK nr e)->qr mk (T.fold (M.nodeE nr))=T.fold (M.fN nr mk)
 |.lf o,h=>by
  have b:=h.1;have f:=h.2.1;have g:=h.2.2.1;have a:o.kind=0\/o.kind=1\/o.kind=2\/o.kind=3:=by unfold M.ar at b;split at b<;>(try split at b)<;>omega
  rcases a with q|q|q|q<;>simp[TR.fold,M.nodeE,M.fN,M.Names,M.tg,qr,q]
 |.un o x,h=>by
  have a:o.kind=6\/o.kind=7:=by have:=h.1;unfold M.ar at this;split at this<;>(try split at this)<;>omega
  rcases a with q|q<;>simp[TR.fold,M.nodeE,M.fN,M.Names,qr,q]
 |.bn o x y,h=>by
  have a:o.kind=4\/o.kind=5:=by have:=h.1;unfold M.ar at this;split at this<;>(try split at this)<;>omega
  have c:=udP mk x h.2.2.1;have d:=udP mk y h.2.2.2;rcases a with q|q<;>simp[TR.fold,M.nodeE,M.fN,M.Names,qr,q,c,d]
theorem ulq{g}(a:M.Valid g){mk}(o:M.Least (g.nr+g.nb) (vr g) mk){il I t}(h:Ends (pgN g) (pgI g) il I 20000 300 s0 t)(c:t.code=0)(m:mk 0=false):0<t.pos:=by
 have k:pgI g=ulv (vO g (g.nr+g.nb)):=by
  funext i;unfold pgI dat ulv;rw[List.getD_eq_getElem?_getD]
 have n:pgN g=(vO g (g.nr+g.nb)).length:=(xW g _).symm;rw[k,n]at h;have d:=unV (opG g) (trG g) (xQ g) mk (g.nr+g.nb) (by have:=a.r1;omega) (uc4 g) (λi b j=>⟨M.tree_below (uju a.sound b),λe=>o.shut i b (by
  have p:0<(nd g i).bl:=by simpa[xQ] using j
  obtain⟨T,_,f,_,l⟩:=ubW ((xt a.sound b).resolve_left (by omega));unfold vr M.nulB;unfold trG M.treeE at e;rw[l]at e ⊢;rw[<-udP mk T f];exact e)⟩)
 rcases unU d h ui2 c with q|q
 ·exact q
 rw[m]at q;cases q.2
def usU(p:Nat×(Nat->Int))(h:Byt p.1 p.2)(b:p.1<=4000):Tx:=⟨p.1,λi=>if i<p.1 then p.2 i else 0,λi=>by
 split
 ·rename_i a;exact h i a
 omega,by omega⟩
theorem upT{p:Nat×(Nat->Int)}{h:Byt p.1 p.2}{g:p.1<=4000}{Q w a}(c:Ints Q .u8 w a p.1 p.2):TxA Q w a (usU p h g):=by
 rcases c with e|⟨b,o,e,j,d⟩
 ·exact .inl e
 refine .inr ⟨b,o,e,j,λi f=>?_⟩;have hi':i<p.1:=f;show _=some (Value.int .u8 (if i<p.1 then p.2 i else 0));rw[if_pos hi'];exact d i hi'
theorem uhE{g}(h:M.Sound g):vF g:=by
 have f:=h.r2;have k:=h.l2;have d:∀{n:Nat} {B:Nat->OpD},M.BodyOK g.nr g.nb n B->∀i,i<n->(B i).sl<=1048576:=λh i a=>Nat.le_trans (ujv (h.1 i a)) (by omega)
 have c:∀{n:Nat} {T:Nat->Int},M.NameOK n T->Byt n T:=λh i a=>by
  rcases h.2.1 i a with (q|q|q)|q
  ·omega
  ·omega
  ·omega
  obtain⟨l,m⟩:=q;omega
 refine⟨by omega,by omega,λi a=>⟨Nat.le_trans (h.rn i a).1 (by omega),c (h.rn i a),Nat.le_trans (jV h a) (by omega),d (h.rb i a)⟩,λi a=>⟨Nat.le_trans (h.ln i a).1 (by omega),c (h.ln i a),Nat.le_trans (qT h a) (by omega),?_⟩⟩;cases b:(g.lab i).has with
 |true=>exact d (h.lb i a b)
 |false=>rw[h.lz i a b];exact λj e=>absurd e (Nat.not_lt_zero _)
theorem uiX a n c w(h:4000<n)(f:n<=6000000) :
  Calls Tryz.prog 5 #[.slice a n c] w (λe w'=>e=.returned (.tuple #[.agg #[.slice none 0 0,.slice none 0 0],.int .i64 7,.int .i64 0])/\Below w.heap.size w w'):=by
 have b:(n:Int) > 4000:=by omega
 have d:=decide_eq_true b;go_enter Tryz.func5,Tryz.ntmps5;go_wp2;refine bodyPost_ret (v:=.tuple #[.agg #[.slice none 0 0,.slice none 0 0],.int .i64 7,.int .i64 0]) ?_ rfl ?_
 ·simp[results,Tryz.f5,go_sem]
 exact⟨rfl,ui _ _⟩
def uts(w:World)(e:Ending)(w':World):Prop:=e=.returned (.bool true)/\Below w.heap.size w w'
theorem urT Q a n c S w(hI:Ints Q .u8 w a n S)(B:Byt n S)(hc:n<=c)(a0:a=none->n=0/\c=0)(bx:n<=9223372036854775807) :
  Calls Tryz.prog 3 #[.slice a n c] w (uts w):=by
 by_cases h1:1048576<n
 ·have h1':(1048576:Int)<(n:Int):=by omega
  go_enter Tryz.func3,Tryz.ntmps3;go_wp2;go_ret;exact⟨rfl,Below.refl _ _⟩
 have h1':¬(1048576:Int)<(n:Int):=by omega
 have af:Hid (∀W,Ints Q .u8 W a n S->Calls Tryz.prog 4 #[.slice a n c] W (DpF (dpT (ugG n S B)) W)):=λW hW=>uen Q a n c S W hW B (by omega) hc a0
 obtain⟨aa,ab⟩:=urd (ugG n S B);generalize dpT (ugG n S B)=p at *;have HI:=ua hI;have bb:=ua ab;have bl:=aa.2;have bt:=ab.2;have ba:=ua aa.1;clear hI B hc a0 aa ab h1;go_enter Tryz.func3,Tryz.ntmps3;go_wp2_with fail;refine(af w HI).mono ?_;rintro e W1 ⟨a1,u,a2,Y,fu,sk,rfl,aq,ao,ay⟩;have al:=ua aq;have d:=ua ao;have b:=ua ay.bel;have i:=ua (Nat.le_refl W1.heap.size);clear aq ao ay;by_cases ax:4000<p.1.1
 ·go_wp2_with fail;refine(uiX a1 p.1.1 u W1 ax bl).mono ?_;rintro e W2 ⟨rfl,j⟩;replace b:=ua (uf b j);clear j;go_wp2;go_ret;exact⟨rfl,uf b (ui _ _)⟩
 obtain⟨t,ht,a6⟩:∃t:Tx,(∀(Q:Nat->Prop) (w:World) (a:Option Addr),Ints Q .u8 w a p.1.1 p.1.2->TxA Q w a t)/\t.n=p.1.1:=⟨usU p.1 ba (by omega),λQ w a h=>upT h,rfl⟩;have HT:=ua ht;have ai:Hid (∀(Q:Nat->Prop) (W:World) (a:Option Addr) (c:Nat),Ints Q .u8 W a p.1.1 p.1.2->Calls Tryz.prog 5 #[.slice a p.1.1 c] W (qI t W)):=λQ W a c h=>by
  have:=uiD Q t a c W (HT Q W a h);rwa [a6]at this
 clear ht a6 ax;go_wp2_with fail;refine(ai _ W1 a1 u al).mono ?_;rintro e W2 ⟨code,at_,g,ra,rc,la,lc,a3,rfl,hX,T⟩;have aj:=ua a3;have m:=ua (ux W2 #[.slice ra g.nr rc,.slice la g.nb lc] 28);have s:=ui W2 (.cells #[.slice ra g.nr rc,.slice la g.nb lc] 28);have r:=ua (hX.later s);replace b:=ua (uf (uf b T.bel) s);replace d:=ua ((d.later T.bel).later s);replace i:=ua (Nat.le_trans i.out (uf T.bel s).size);clear a3 hX T s al;go_upto_if 40 with fail;generalize W2.alloc _=W3 at *;by_cases e0:code=0
 ·subst e0;have o:=ua (uk6 aj);have V:=ua (uhE o.sound);have HL:=ua (M.rnd_least (ua4 o));obtain⟨z3,p3,l3⟩:=m.x;go_wp2_with fail;refine(uey _ ra la rc lc g W3 r V).mono ?_;rintro e W4 ⟨a9,P⟩;obtain⟨_,b4,bu,rfl,ad⟩:=a9.resolve_right (λq=>q.1 o);have br:=o.out.r1;have bi:=o.out.r2;have bj:=o.out.l2;obtain⟨N,hN⟩:=nm (g.nr+g.nb);have U:=ua hN;rw[hN]at ad HL;generalize bm:M.rnd (vr g) N=mk at *;have l:=ua ad;replace b:=ua (uf b P);replace d:=ua (d.later P);replace i:=ua (Nat.le_trans i.out P.size);clear a9 ad P z3 p3 l3 m r;go_wp2_with fail;refine(af W4 (HI.later b)).mono ?_;rintro e W7 ⟨a7,c7,a8,c8,bq,b6,rfl,au,bh,D⟩;have am:=ua au;replace b:=ua (uf b D.bel);replace d:=ua (d.later D.bel);replace i:=ua (Nat.le_trans i.out D.bel.size);replace l:=ua (l.out.of_block (D.bel.block _ (yS l.out)));clear au bh D;go_wp2_with fail;refine(ai _ W7 a7 c7 am).mono ?_;rintro e X ⟨bp,bo,g2,G,H,E,F,a4,rfl,av,az⟩;obtain⟨rfl,rfl⟩:=upl aj a4;have m:=ua (ux X #[.slice G g.nr H,.slice E g.nb F] 28);have s:=ui X (.cells #[.slice G g.nr H,.slice E g.nb F] 28);have r:=ua (av.later s);have C:=uf az.bel s;replace b:=ua (uf b C);replace d:=ua (d.later C);replace i:=ua (Nat.le_trans i.out C.size);replace l:=ua (l.out.of_block (C.block _ (yS l.out)));clear a4 av az s am C;go_upto_region 10 with fail;generalize X.alloc _=W9 at *;obtain⟨z9,p9,l9⟩:=m.x;go_wp2_with fail;refine(ugf _ G E H F g W9 r.out.plain V (λ_=>ulP G E g H F bi bj)).mono ?_;rintro e an ⟨hv,v⟩;obtain⟨_,b5,bw,rfl,ac⟩:=hv.resolve_right (λq=>q.1 o);rw[U.out,bm]at ac;have ak:=ua ac;replace b:=ua (uf b v);replace d:=ua (d.later v);replace i:=ua (Nat.le_trans i.out v.size);replace l:=ua (l.out.of_block (v.block _ (yS l.out)));replace m:=ua (m.on v);replace r:=ua (r.later v);clear hv ac v z9 p9 l9;rw[U.out];have bs:N<=200:=by omega
  have bk:0<N:=by omega
  have b2:=yS l.out;have b3:=yS ak.out;go_wp2;go_loopw [19] (λiv wr=>∃k:Nat,k<=N/\iv=.int .i64 (k:Int)/\Below an.heap.size an wr) (λiv _=>N-(intOf iv).toNat)
  case atStart=>exact⟨0,Nat.zero_le _,rfl,Below.refl _ _⟩
  case round =>
   obtain⟨k,hk,rfl,j⟩:=hrel;have HW:=ua j;by_cases Z:k<N
   ·have hlt':(k:Int)<(N:Int):=(by omega);obtain⟨z,hz⟩:=nm (mk k);have u:=ue (l.out.cell Z) j;have Y:=ue (ak.out.cell Z) j;rw[hz]at u Y;have b0:(z != z)=false:=(by simp);clear j hz;go_wp2;go_region;go_wp2;go_roundw
    case rel=>exact⟨k+1,Z,by go_num,HW.out.drew⟩
    case measure=>simp[intOf];omega
   have hlt':¬(k:Int)<(N:Int):=(by omega);have u:=ue (l.out.cell bk) j;replace b:=ua (uf b j);replace d:=ua (d.later j);replace i:=ua (Nat.le_trans i.out j.size);replace m:=ua (m.on j);replace r:=ua (r.later j);clear j;cases L:mk 0 with
   |true =>
    rw[L]at u;go_wp2;go_ret;exact⟨rfl,b.out⟩
   |false =>
    rw[L]at u;have H0:=ua L;obtain⟨z9,p9,l9⟩:=m.x;clear L;go_wp2_with fail;refine(ukE _ G E H F g o V wr r).mono ?_;rintro e be ⟨bf,bg,rfl,ap,O⟩;have ah:=ua ap;replace b:=ua (uf b O);replace d:=ua (d.later O);replace i:=ua (Nat.le_trans i.out O.size);have ae:=ul5 o.sound;have bc:Hid (ukk (pgN g) (pgI g) 20000 300):=⟨by omega,by omega,by omega,by omega,ae.2⟩;obtain⟨J,a5⟩:=ufk (n:=pgN g) (R:=pgI g) (il:=p.2.1) (I:=p.2.2) (fuel:=20000) (most:=300) 20000 s0 (by decide) (by decide);have ag:=ua a5;have bz:=ae.1;clear ap O z9 p9 l9 m r u ae a5;go_wp2_with fail;refine(unj _ _ bf (pgN g) bg (pgI g) a2 p.2.1 Y p.2.2 20000 300 J be ah.out bc.out (by omega) d.out bb.1 (by omega) ag.out (λy q=>q.2) (λy q=>Nat.lt_of_lt_of_le q.2 i.out)).mono ?_;rintro e bn ⟨ps,lb,fa,ea,en,ec,su,th,va,vn,vc,rfl,hp,aw⟩;replace b:=ua (uf b aw);have bd:Hid (J.code=0->0<J.pos):=λe=>ulq o.out (by rw[U.out];exact HL.out) ag.out e H0.out
    clear aw ah d;unfold oC;by_cases A:J.code=0
    ·have h1:(0:Int)<ps:=(by have:=bd A;have:=hp A;omega);rw[A];clear A hp;go_wp2;go_ret;exact⟨rfl,uf b.out (ui _ _)⟩
    have f:(J.code != 0)=true:=(by simp[A]);clear A hp;go_wp2;go_ret;exact⟨rfl,uf b.out (ui _ _)⟩
 have f:(code != 0)=true:=by simp[e0]
 go_wp2;go_ret;exact⟨rfl,b.out⟩
end Go.Proofs.YtimfigongapdnaaGreat
