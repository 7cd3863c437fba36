import Derived.Test.YtpghlcdkfldlpaaGreatT54
import Derived.Test.YtpghlcdkfldlpaaGreatT37
set_option linter.unusedVariables false
set_option linter.unusedSimpArgs false
set_option maxHeartbeats 40000000
set_option maxRecDepth 100000
namespace Go.Proofs.YtpghlcdkfldlpaaGreat
open Go.RowKit
open M (OpD ue Gr um)
def exL(M:Nat->Bool):List Value:=(List.range 256).map (fun i=>.bool (M i))
theorem ujO M:(exL M).length=256:=by simp[exL]
theorem ujP M{i}(h:i<256):(exL M)[i]? = some (.bool (M i)):=by simp[exL,h]
theorem ukV{w b s d il ic most ka e kc la ln lc}(h:MacC w b s d il ic most ka e kc la ln lc):w.rangeAt b 7 (exL s.exp):=fun j v a=>by
  have c:j<256:=by have:=(List.getElem?_eq_some_iff.1 a).1;rw[ujO]at this;exact this
  rw[ujP _ c]at a;cases a
  exact h.ex j c
theorem Box.s8{w b k l m n o p q r}(h:Box w b #[k,l,m,n,o,p,q,r])a c d f v4 g i j:Box ((((((((w.setCell ⟨b,0,none⟩ a).setCell ⟨b,1,none⟩ c).setCell ⟨b,2,none⟩ d).setCell ⟨b,3,none⟩ f).setCell ⟨b,4,none⟩ v4).setCell ⟨b,5,none⟩ g).setCell ⟨b,6,none⟩ i).setCell ⟨b,7,none⟩ j) b #[a,c,d,f,v4,g,i,j]:=by
  have e:=(((((((h.set 0 a).set 1 c).set 2 d).set 3 f).set 4 v4).set 5 g).set 6 i).set 7 j;simp only[List.setIfInBounds_toArray,List.set_cons_zero,List.set_cons_succ]at e;exact e
theorem Box.c8{w b a c d e f g i j}(h:Box w b #[a,c,d,e,f,g,i,j]):w.cell? ⟨b,0,none⟩=some a/\w.cell? ⟨b,1,none⟩=some c/\w.cell? ⟨b,2,none⟩=some d/\w.cell? ⟨b,3,none⟩=some e/\w.cell? ⟨b,4,none⟩=some f/\w.cell? ⟨b,5,none⟩=some g/\w.cell? ⟨b,6,none⟩=some i/\w.cell? ⟨b,7,none⟩=some j/\∀o,w.frozen? ⟨b,o,none⟩=false:=let ⟨z,p,_⟩:=h.x;⟨z 0,z 1,z 2,z 3,z 4,z 5,z 6,z 7,p⟩
def oC(a e:Int)(u:MSt)(b:Option Addr)(d c:Nat)(f:Option Addr)(h g:Nat):Array Value:=#[.int .i64 a,.int .i64 e,.int .i64 0,.int .i64 (u.far:Int),.slice b d c,.int .i64 (u.steps:Int),.int .i64 (u.throws:Int),.slice f h g]
theorem uhd K L b u O il ic most ka kc la lc w(D:MacA K L w b u O il ic most ka kc la lc) :
    Calls Tryz.prog 40 #[.pointer (some ⟨b,0,none⟩),.int .i64 0] w (fun e w'=>∃d g f,e=.returned (.agg (oC 0 u.pos u d g f la u.log.length lc))/\Below w.heap.size w w'):=by
  have lb:=D.bl;have A:=ua (uw w #[.int .i64 0,.int .i64 0,.int .i64 0,.int .i64 0,.slice none 0 0,.int .i64 0,.int .i64 0,.slice none 0 0] 37);have B:=ua (uf w (.cells #[.int .i64 0,.int .i64 0,.int .i64 0,.int .i64 0,.slice none 0 0,.int .i64 0,.int .i64 0,.slice none 0 0] 37));have o:=ua (D.later B);go_enter Tryz.func40,Tryz.ntmps40;go_upto_region 3 with fail
  generalize w.alloc _=X at *;have Y:=A.x.2.2;obtain⟨EX,t⟩:=nm (exL u.exp);have E:=t▸ujO _;have V:=Tryz.underlying93;have S:(Tryz.prog.info? 93).map (·.size)=some EX.length:=by rw[E];exact ujR
  have H:Hid (∀W,Calls Tryz.prog 79 #[.agg EX.toArray,.bool true] W (fun e m=>∃a n c,e=.returned (.slice a n c)/\Below W.heap.size W m)):=fun W=>(ufW EX.toArray u.exp W (by simp[E]) (fun i J=>by rw[List.getElem?_toArray,<-t];exact ujP _ J)).mono (fun e m ⟨a,c,h,I,_⟩=>⟨a,_,c,h,I.bel⟩)
  have C:Hid (∀W,Below X.heap.size X W->W.cell? ⟨b,6,none⟩=some (.int .i64 (u.far:Int))/\W.cell? ⟨b,263,none⟩=some (.int .i64 (u.steps:Int))/\W.cell? ⟨b,264,none⟩=some (.int .i64 (u.throws:Int))/\W.rangeAt b 7 EX):=fun W s=>⟨uc o.c.c6 s,uc o.c.c8 s,uc o.c.c9 s,fun j v N=>uc (ukV o.c j v (t▸N)) s⟩
  obtain⟨P,Q,R,U⟩:=C X (Below.refl _ _);go_cut [5] (fun v wc=>∃q d g f,v=.pointer (some ⟨q,0,none⟩)/\Box wc q (oC 0 0 u d g f none 0 0)/\Below X.heap.size X wc/\X.heap.size<=q)
  case first =>
    go_region_held3 (fun m=>m.cell? ⟨b,6,none⟩=some (.int .i64 (u.far:Int))/\m.cell? ⟨b,263,none⟩=some (.int .i64 (u.steps:Int))/\m.cell? ⟨b,264,none⟩=some (.int .i64 (u.throws:Int))/\m.rangeAt b 7 EX)
      ((refine C.out _ ?_;repeat with_reducible first|exact r.out | exact Below.refl _ _ | refine Below.drew ?_ | refine uo ?_ _ _ _ (Nat.le_refl _) | refine ud ?_ (uf _ _)))
      ((go_at_call 79
        with_reducible refine (H.out _).mono ?_
        rintro e W ⟨d,g,f,rfl,k⟩;have r:Hid (Below X.heap.size X W):=by first|exact ud (Below.refl _ X).drew k | exact ud (uf X _).drew k
        try (have y:Hid (Box W X.heap.size #[.int .i64 0,.int .i64 0,.int .i64 0,.int .i64 0,.slice none 0 0,.int .i64 0,.int .i64 0,.slice none 0 0]):=⟨37,(k.block X.heap.size (by show _<(X.alloc _).heap.size;simp)).trans (World.alloc_heap_new X _)⟩
             obtain⟨r0,r1,r2,r3,r4,r5,r6,r7,pk⟩:=y.c8)
        clear k))
    all_goals go_wp2
    · go_meet
      exact⟨_,d,g,f,rfl,uw _ _ _,ud r (uf _ _),r.size⟩
    · go_meet
      refine⟨_,d,g,f,rfl,y.s8 _ _ _ _ _ _ _ _,?_,Nat.le_refl _⟩
      repeat with_reducible first|exact r.out | refine uo ?_ _ _ _ (Nat.le_refl _)
  case rest =>
    obtain⟨q,d,g,f,rfl,F,k,T⟩:=hcut;have m3:=uc o.c.c3 k;have m5:=uc o.c.c5 k;obtain⟨z,p,l⟩:=F.x;unfold oC at z;obtain⟨zr,pr,Z⟩:=(A.on k).x;have G:=ua (ud B k);have aa:q≠w.heap.size:=by omega
    have ab:b≠q:=by omega
    have ac:b≠w.heap.size:=by omega
    go_wp2;go_region;all_goals
      go_wp2;refine bodyPost_ret (v:=.agg (oC 0 u.pos u d g f la u.log.length lc)) ?_ rfl ⟨d,g,f,rfl,?_⟩
      · unfold oC
        simp[results,Tryz.f40,go_sem, *]
      · repeat with_reducible first|exact G.out | refine Below.drew ?_ | refine uo ?_ _ _ _ (by omega)
def mac0:Array Value:=#[.slice none 0 0,.int .i64 0,.int .i64 0,.int .i64 0,.slice none 0 0,.slice none 0 0,.int .i64 0]++(madeCells #[.bool false] 256++#[.int .i64 0,.int .i64 0,.int .i64 0])
theorem ujK:(Tryz.prog.info? 95).map (λi=>(i.zero,i.size))=some (some (.agg mac0),266):=by kernel_rfl
theorem kD:mac0.size=266:=by simp[mac0,size_madeCells]
theorem umI{i}(h:i<256):mac0[7+i]?=some (.bool false):=by
 unfold mac0;rw[Array.getElem?_append_right (by simp),Array.getElem?_append_left (by simp[size_madeCells];omega)];have e:7+i-(#[.slice none 0 0,.int .i64 0,.int .i64 0,.int .i64 0,.slice none 0 0,.slice none 0 0,.int .i64 0]:Array Value).size=i:=by simp
 rw[e];exact udH h
def ubx(a:Option Addr)(il ic:Nat)(most:Int):Array Value:=(mac0.setIfInBounds 0 (.slice a il ic)).setIfInBounds 1 (.int .i64 most)
theorem ue4 a il ic most:(ubx a il ic most).size=266:=by unfold ubx;simp[kD]
theorem umJ b il ic most{j v}(c:j≠0)(d:j≠1)(a:mac0[j]?=some v):(ubx b il ic most)[j]?=some v:=by
 unfold ubx;rw[Array.getElem?_setIfInBounds_ne (by omega),Array.getElem?_setIfInBounds_ne (by omega)];exact a
theorem ukR(W:World)(b:Option Addr)(il ic:Nat)(most:Int):MacA (λ_=>False) (λ_=>False) (W.alloc (.cells (ubx b il ic most) 95)) W.heap.size s0 b il ic most none 0 none 0:=by
 have a:=yE W (.cells (ubx b il ic most) 95) _ rfl;have g:=λ(j:Nat) (v:Value) (c:j≠0) (d:j≠1) (f:mac0[j]?=some v)=>ui (j:=j) a (umJ b il ic most c d f)
 refine⟨⟨ui (j:=0) a ?_,ui (j:=1) a ?_,g 2 _ (by decide) (by decide) (by kernel_rfl),g 3 _ (by decide) (by decide) (by kernel_rfl),g 4 _ (by decide) (by decide) (by kernel_rfl),g 5 _ (by decide) (by decide) (by kernel_rfl),g 6 _ (by decide) (by decide) (by kernel_rfl),λi e=>g (7+i) _ (by omega) (by omega) (umI e),g 263 _ (by decide) (by decide) (by kernel_rfl),g 264 _ (by decide) (by decide) (by kernel_rfl),g 265 _ (by decide) (by decide) (by kernel_rfl),λj=>ur a⟩,.inl ⟨rfl,rfl,rfl⟩,.inl ⟨rfl,rfl,rfl⟩,λx k=>(k.elim id id).elim,λx h=>h.elim,id,id⟩
 ·unfold ubx;rw[Array.getElem?_setIfInBounds_ne (by decide)];simp[kD]
 unfold ubx;simp[kD]
theorem ukS(W:World)(b:Option Addr)(il ic:Nat)(most:Int):(storeCells ⟨W.heap.size,0,none⟩ ((mac0.toList.set 0 (.slice b il ic)).set 1 (.int .i64 most))).run Tryz.prog (W.alloc (.cells mac0 95))=.ok () (W.alloc (.cells (ubx b il ic most) 95)):=by
 have c:mac0.all Value.oneCell'=true:=by kernel_rfl
 have h:=run_storeCells_new (P:=Tryz.prog) W 95 mac0 (ubx b il ic most) (by rw[ue4];exact(zero_of_info (P:=Tryz.prog) ujK).2) (by rw[kD,ue4]) (by
  rw[Array.all_eq_true_iff_forall_mem];intro v a;rcases Array.mem_or_eq_of_mem_setIfInBounds a with a|rfl
  ·rcases Array.mem_or_eq_of_mem_setIfInBounds a with a|rfl
   ·exact Array.all_eq_true_iff_forall_mem.1 c v a
   rfl
  rfl)
 have e:(ubx b il ic most).toList=(mac0.toList.set 0 (.slice b il ic)).set 1 (.int .i64 most):=by unfold ubx;simp
 rw[e]at h;exact h
theorem umK Q C a n c R d il ic I fuel most t w(O:InsA Q w a n R)(V:udW n R fuel most)(Z:n<=1048576)(U:Ints C .u8 w d il I)(S:Byt il I)(ag:il<=1048576)(T:Ends n R il I fuel most s0 t)(N:t.code=0)(aa:∀y,Q y->y<w.heap.size)(ab:∀y,C y->y<w.heap.size) :
  Calls Tryz.prog 9 #[.slice a n c,.slice d il ic,.int .i64 fuel,.int .i64 most] w (λe w'=>∃l o m va vc Q,e=.returned (.agg (oC 0 t.pos t l o m va t.log.length vc))/\EvW Q w' va t.log.length (λi=>t.log.getD i ⟨0,0,0⟩)/\Below w.heap.size w w'):=by
 have H:=ua O;have HI:=ua U;have f:=ua V;have ac:=ua S;have ad:=ua T;have J:=ua aa;have HQ':=ua ab;have HC:=ua N;have hz:=(zero_of_info (P:=Tryz.prog) ujK).1;have j:=ua (uw w #[.int .i64 0,.int .i64 0,.int .i64 0,.int .i64 0,.slice none 0 0,.int .i64 0,.int .i64 0,.slice none 0 0] 37);clear O U V S T aa ab N;go_enter Tryz.func9,Tryz.ntmps9;go_wp2_with fail;refine(uiz fuel most _).mono ?_;rintro e W ⟨rfl,hW⟩;subst W;rw[show decide (0<=fuel/\fuel<=50000/\0<=most/\most<=1000)=true from decide_eq_true ⟨f.out.f0,f.out.f1,f.out.m0,f.out.m1⟩];go_wp2_with fail;refine(ufV Q a n c R _ (H.later (uf w _)) Z (λi F=>Nat.le_trans (f.sets i F) (by omega))).mono ?_;rintro e W ⟨⟨r,rfl,hr⟩,E⟩;have k:=ua (ud (uf w _) E);replace j:=ua (j.on E);have am:=j.x.2.2;cases r with
 |true=>obtain⟨i,F,hl⟩:=hr.1 rfl;have:=f.sets i F;omega
 |false =>
  have ai:=kD;have ah:¬mac0=#[]:=λh=>by have p:=kD;rw[h]at p;cases p
  have aj:=ukS W d il ic most;have b:=ua (uf W (.cells (ubx d il ic most) 95));have af:=ua (ukR W d il ic most);clear E hr;go_wp2_with fail;generalize W.alloc (.cells (ubx d il ic most) 95)=X at *;clear aj ai ah hz;refine(um4 Q C W.heap.size a n c R d il ic I fuel most t X af ((H.later k).later b) Z ((HI.later k).later b) ac ag f ad (λq=>by have:=J _ q;omega) (λy q=>by have h1:=J y q;have p:=b.size;omega) (λq=>by have:=HQ' _ q;omega) (λy q=>by have h1:=HQ' y q;have p:=b.size;omega)).mono ?_;rintro e W2 ⟨rfl,z,st,ka,kc,la,lc,K,L,s,Y,g⟩;have al:=b.size;have ak:=g.size;have G:∀x,L x->X.heap.size<=x/\x<W2.heap.size:=λx q=>⟨Y x (.inr q),s.lt x (.inr q)⟩
  have ae:=ua (upj s.log);have HM:=ua s;replace j:=ua (((j.on b).blk (g.block _ (by omega) (by omega))));have B:Hid (Below w.heap.size w W2):=⟨g.os.trans (b.os.trans k.os),g.tape.trans (b.tape.trans k.tape),g.output.trans (b.output.trans k.output),by omega,λx A=>(g.block x (by omega) (by omega)).trans ((b.block x (by omega)).trans (k.block x A))⟩;rw[HC.out];clear s Y g;go_wp2_with fail;refine(uhd K L W.heap.size { t with at_:=z,st:=st } d il ic most ka kc la lc W2 HM).mono ?_;rintro e W3 ⟨l,o,m,rfl,u⟩;replace B:=ua (ud B u);obtain⟨zr,pr,lr⟩:=(j.on u).x;have HV:Hid (∀D,Only (λx=>x=w.heap.size) W3 D->EvW L D la t.log.length (λi=>t.log.getD i ⟨0,0,0⟩)):=λD ho=>ae.on (λx A=>(ho.block x (λe=>by have:=G x A;omega)).trans (u.block x (G x A).2))
  clear u G;unfold oC;go_wp2;refine bodyPost_ret (v:=.agg (oC 0 t.pos t l o m la t.log.length lc)) ?_ rfl ⟨l,o,m,la,lc,L,rfl,HV _ ?_,?_⟩
  ·unfold oC;simp[results,Tryz.f9,go_sem, *]
  ·repeat with_reducible first|exact Only.refl _ _|refine Only.set (P:=λx=>x=w.heap.size) ?_ _ _ _ rfl
  repeat with_reducible first|exact B.out|refine uo ?_ _ _ _ (Nat.le_refl _)
theorem uri:(Tryz.prog.info? 43).map (λi=>(i.zero,i.size,i.bytes))=some (some (.agg #[.int .i64 0,.int .i64 0,.int .i64 0,.int .i64 0,.int .i64 0]),5,40):=by kernel_rfl
theorem urj:vV 39 43 5 40:=⟨Tryz.underlying39,⟨_,uri,rfl⟩,by omega⟩
def ndO(d:NdD):Obj:=.cells #[.int .i64 d.kind,.int .i64 d.arg,.int .i64 d.frm,.int .i64 d.to,.int .i64 d.par] 43
theorem urk(w:World)(d:NdD):Src Tryz.prog 5 39 (.slice (some ⟨w.heap.size,0,none⟩) 1 1) 1 (ndv d) (w.alloc (ndO d)):=by
 obtain⟨z,_,_⟩:=(uw w #[.int .i64 d.kind,.int .i64 d.arg,.int .i64 d.frm,.int .i64 d.to,.int .i64 d.par] 43).x;refine Src.ofSlice (P:=Tryz.prog) _ Tryz.underlying39 ⟨w.heap.size,0,none⟩ 1 1 (ndv d) rfl (λj u a=>?_) (λu a=>?_)
 ·have e':(⟨w.heap.size,0,none⟩:Addr).add j=⟨w.heap.size,j,none⟩:=by
   by_cases b:j=0
   ·subst b;simp[Addr.add]
   simp[Addr.add,b]
  rw[e',<-a];exact(z j).trans (by simp[ndv])
 simp[ndv]at a;rcases a with rfl|rfl|rfl|rfl|rfl<;>rfl
structure ues(w0 wr:World)(v:Value)(m:Nat)(cs:List Value):Prop where
 own:OwnC (λb=>w0.heap.size<=b) wr v 5 m cs
 bel:Below w0.heap.size w0 wr
theorem urU{ops:Array Oper}{rest:List Oper}{o:Oper}{a:Act}{g:Exit->Act->World->Prop}(l:o.guard=none)(s x:Operand)(n:o.op=.call { callee:=.builtin .append,args:=#[s,x],argTypes:=#[39,39] })
  {w0 w1 w:World} {v y:Value} {m:Nat} {cs:List Value} {d:NdD} (p:a.eval s=v) (t:a.eval x=y) (u:y=.slice (some ⟨w1.heap.size,0,none⟩) 1 1) (r:w=w1.alloc (ndO d)) (h:ues w0 w1 v m cs) (z:m<=4194304)
  (k:∀w' e f,Hid (ues w0 w' (.slice e (m+1) f) (m+1) (cs++ndv d))->wpList Tryz.prog ops g rest (a.put o.dst (.slice e (m+1) f)) w'):wpList Tryz.prog ops g (o::rest) a w:=by
 subst r u;have b1:=uf w1 (ndO d);refine uaB l s x 39 39 n p t urj (udP h.own (by omega) b1) (urk w1 d) (by omega) ?_;intro D w' i c C;obtain⟨e,f,rfl⟩:=ul i;have A:=h.bel.size;have B:=b1.size;refine k w' e f ⟨ubC i (λb q=>q.elim id (λq=>by omega)),?_⟩;exact⟨c.os.trans (b1.os.trans h.bel.os),c.tape.trans (b1.tape.trans h.bel.tape),c.output.trans (b1.output.trans h.bel.output),by have:=c.size;omega,λb j=>(c.block b (by omega) (λq=>by omega)).trans ((b1.block b (by omega)).trans (h.bel.block b j))⟩
theorem uhI{w0 w E}{k q:Nat}{a}{c:Nat}(h:ues w0 w (.slice a (num E k) c) (num E k) (xU E k))(t:Pre E k)(r:1<=opn E k)(v:las E k (opn E k)=(q:Int)) :
  ∃g,a=some ⟨g,0,none⟩/\w0.heap.size<=g/\g<w.heap.size/\q<num E k/\(∃u,w.cell? ⟨g,q*5+3,none⟩=some u)/\w.frozen? ⟨g,q*5+3,none⟩=false/\w.cell? ⟨g,q*5+4,none⟩=some (.int .i64 (las E k (opn E k-1)))/\∀x:Int,ues w0 (w.setCell ⟨g,q*5+3,none⟩ (.int .i64 x)) (.slice a (num E k) c) (num E k) ((xU E k).set (q*5+3) (.int .i64 x)):=by
 have L:=ucg t;obtain⟨j,m,n,y,z,C⟩:=L.chain (opn E k) r (Int.le_refl _);have f:q=num E j:=by rw[y]at v;omega
 have p:q<num E k:=by rw[f];exact uce E n m
 have s:=h.own;rcases h.own with⟨_,e,_⟩|⟨g,cap,e,d,A,B,o,b⟩
 ·omega
 obtain rfl:a=some ⟨g,0,none⟩:=by injection e
 obtain⟨u,i⟩:=Option.isSome_iff_exists.1 (b (q*5+3) (by omega)).1;refine⟨g,rfl,d,ub i,p,⟨u,i⟩,(b (q*5+3) (by omega)).2,?_,λx=>⟨OwnC.put s (by rw[uee];omega) _,uo h.bel _ _ _ d⟩⟩;have l:=ui8 E n m;rw[<-f]at l;rw[o (q*5+4) (by rw[uee];omega)];unfold xU;rw[uci (λj=>ndv (ndI E k j)) _ q 4 j (λ_ _=>uc0 _) l (by omega),<-z];rfl
def lea(E:Nat->EvD)(k:Nat):Int:=if k=0 then 0 else (E (k-1)).pos
theorem url{E k}(h:urW E k):lea E k<=(E k).pos:=by
 unfold lea;split
 ·exact h.pos
 exact h.asc (by omega)
def grI(w:World)(n:Nat)(E:Nat->EvD)(d c b a:Value)(wr:World):Prop :=
 ∃k:Nat,k<=n/\a=.int .i64 (k:Int)/\c=.int .i64 (las E k (opn E k))/\b=.int .i64 (lea E k)/\ues w wr d (num E k) (xU E k)
theorem unR Q a n c E w(v:EvA Q w a n E)(hn:n<=1048576)(W:uhL E n) :
  Calls Tryz.prog 41 #[.slice a n c] w (λe w'=>∃ta tc,e=.returned (.tuple #[.slice ta (num E n) tc,.nilIface])/\ues w w' (.slice ta (num E n) tc) (num E n) (xU E n)):=by
 have HE:=ua v;have H:=ua W;clear v W;go_enter Tryz.func41,Tryz.ntmps41;go_wp2;go_loopw [4,5,6,11] (λtv mv lv P wr=>grI w n E tv mv lv P wr) (λtv mv lv P _=>n-(intOf P).toNat)
 case atStart=>exact⟨0,Nat.zero_le _,rfl,rfl,rfl,.inl ⟨rfl,rfl,rfl⟩,Below.refl _ _⟩
 case round =>
  obtain⟨k,hk,rfl,rfl,rfl,I⟩:=hrel;obtain⟨R,F,rfl⟩:=ul I.own;have s:=H.1.less hk;obtain⟨m,D⟩:=nm (num E k);have ae:=urm E k;have o2:=qx s;obtain⟨l,p⟩:=nm (las E k (opn E k));have ad:=(ucg s).lt (opn E k) o2 (Int.le_refl _);have L:opn E k=0->l = -1:=λe=>by rw[<-p,e];exact(ucg s).zero
  have N:1<=opn E k->0<=l:=λe=>by rw[<-p];exact(ucg s).ge _ e (Int.le_refl _)
  have U:=ua s;have A:=ua I;have f:Hid (num E k=m/\las E k (opn E k)=l):=⟨D,p⟩;rw[D]at ae ⊢;rw[D,p]at ad;rw[p];clear I D p s;by_cases X:k<n
  ·rcases HE.later A.bel with h0|⟨b,off,rfl,Y,v⟩
   ·omega
   obtain⟨c0,c1,c2⟩:=v k X;have r:=H.1 k X;have ai:=url r;have af:=ua r;have k0:=r.lo;have k2:=r.hi;have T:Hid (lea E (k+1)=(E k).pos):=(by show _=_;unfold lea;rw[if_neg (by omega),Nat.add_sub_cancel]);have Z:=r.room;have S:Hid (∀b,cls E k=b->(b=true↔(E k).kind=2)):=λb e=>by rw[<-e];unfold cls;simp
   have lb:=ub c0;have hlt':(k:Int)<(n:Int):=(by omega);have z:Hid (cls E k=false->num E (k+1)=m+1/\las E (k+1) (opn E (k+1))=(m:Int)/\xU E (k+1)=xU E k++ndv ⟨(E k).kind,(E k).arg,(E k).pos,0,l⟩):=λj =>
    ⟨by rw[ubN E j,f.out.1],by rw[kY j,yD j,if_pos rfl,f.out.1],by rw[ulm U.out j,f.out.2]⟩
   have x:Hid (cls E k=true->num E (k+1)=m/\opn E k=opn E (k+1)+1/\las E (k+1) (opn E (k+1))=las E k (opn E k-1)/\∀q:Nat,l=(q:Int)->q<m->xU E (k+1)=(xU E k).set (q*5+3) (.int .i64 (E k).pos)):=λj =>
    ⟨by rw[ucf j,f.out.1],by rw[ym j];omega,by rw[kI j,ym j],λq e Y=>ui9 j (by rw[f.out.2];exact e) (by rw[f.out.1];exact Y)⟩
   obtain⟨cl,J⟩:=nm (cls E k);have C:=S cl J;rw[J]at z x;clear v S r J;generalize (E k).arg=t at *;generalize (E k).pos=i at *;generalize (E k).kind=kd at *;have q1:¬i<lea E k:=(by omega);generalize lea E k=ls at *;have aa:Hid (ues w (wr.alloc (.cells #[.int .i64 kd,.int .i64 t,.int .i64 i] 135)) (.slice R m F) m (xU E k)):=by
    have:=A;rw[f.out.1]at this;exact⟨udP this.own (by omega) (uf _ _),ud this.bel (uf _ _)⟩
   cases cl with
   |false =>
    have ab:kd=0\/kd=1:=by have h3:¬kd=2:=λh=>absurd (C.2 h) (by decide);omega
    obtain⟨y1,y2,y3⟩:=z rfl;have o:Hid (num E (k+1)=m+1/\las E (k+1) (opn E (k+1))=(m:Int)/\xU E (k+1)=xU E k++ndv ⟨kd,t,i,0,l⟩):=⟨y1,y2,y3⟩;clear y1 y2 y3 z x C k0 k2 Z L N;rcases ab with rfl|rfl;all_goals
     go_wp2_with (at_builtin;refine urU (w1:=wr.alloc (.cells #[.int .i64 _,.int .i64 t,.int .i64 i] 135)) (y:=.slice (some ⟨wr.heap.size+1,0,none⟩) 1 1) (d:=⟨_,t,i,0,l⟩) rfl _ _ rfl rfl rfl (by simp) rfl aa (by omega) ?_;intro W4 a4 c4 G1);go_roundw
     case rel=>exact⟨k+1,by omega,by go_num,by rw[o.out.2.1],by rw[T.out],by rw[o.out.1,o.out.2.2];exact G1⟩
     case measure=>simp[intOf];omega
   |true =>
    have ac:=C.1 rfl;obtain⟨y1,y2,y3,y4⟩:=x rfl;have O:1<=opn E k:=(by omega);have ah:=N O;obtain⟨q,rfl⟩:∃q:Nat,l=(q:Int):=⟨l.toNat,by omega⟩;obtain⟨g,rfl,g1,g2,V,⟨u,g4⟩,g5,g6,B⟩:=uhI A U O f.2;rw[f.out.1]at V B;have aj:(q:Int)<(m:Int):=(by omega);have G:Hid (ues w ((wr.setCell ⟨g,q*5+3,none⟩ (.int .i64 i)).alloc (.cells #[.int .i64 kd,.int .i64 t,.int .i64 i] 135)) (.slice (some ⟨g,0,none⟩) m F) m ((xU E k).set (q*5+3) (.int .i64 i))) :=
     ⟨udP (B i).own (by omega) (uf _ _),ud (B i).bel (uf _ _)⟩
    have o:Hid (num E (k+1)=m/\las E (k+1) (opn E (k+1))=las E k (opn E k-1)/\xU E (k+1)=(xU E k).set (q*5+3) (.int .i64 i)):=⟨y1,y3,y4 q rfl V⟩;subst ac;generalize las E k (opn E k-1)=pr at *;clear y1 y2 y3 y4 B z x C k0 k2 Z L N O;go_wp2;go_roundw
    case rel=>exact⟨k+1,by omega,by go_num,by rw[o.out.2.1],by rw[T.out],by rw[o.out.1,o.out.2.2];exact G⟩
    case measure=>simp[intOf];omega
  obtain rfl:k=n:=by omega
  have hlt':¬(k:Int)<(k:Int):=by omega
  obtain rfl:=L H.2;have G:Hid (ues w wr (.slice R m F) m (xU E k)):=by have:=A;rw[f.out.1]at this;exact this
  go_wp2;refine bodyPost_ret (by simp[results,Tryz.f41,go_sem];rfl) rfl ?_;exact⟨R,F,by rw[f.out.1],by rw[f.out.1];exact G⟩
theorem ui7 Q a n c E w(h:EvA Q w a n E)(j:n<=1048576)(i:uhL E n) :
  Calls Tryz.prog 10 #[.slice a n c] w (λe w'=>∃b d,e=.returned (.tuple #[.slice b (num E n) d,.int .i64 0])/\ues w w' (.slice b (num E n) d) (num E n) (xU E n)):=by
 have f:=ua (unR Q a n c E w h j i);go_enter Tryz.func10,Tryz.ntmps10;go_wp2_with fail;refine f.mono ?_;rintro e W ⟨b,d,rfl,k⟩;have g:=ua k;go_wp2;refine bodyPost_ret (by simp[results,Tryz.f10,go_sem];rfl) rfl ?_;exact⟨b,d,rfl,g⟩
end Go.Proofs.YtpghlcdkfldlpaaGreat
