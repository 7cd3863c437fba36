import Derived.Test.YtimfigongapdnaaGreatT29
set_option linter.unusedVariables false
set_option linter.unusedSimpArgs false
set_option maxHeartbeats 40000000
set_option maxRecDepth 100000
namespace Go.Proofs.YtimfigongapdnaaGreat
open Go.RowKit
open M (OpD ug Gr)
def BPc(f:Nat)(Q:Nat->Prop)(d la:Option Addr)(e lc nr b:Nat)(l:List Tok)(D:List OpD)(w:World):Prop :=
 ∀a c w',Keep (λ_=>False) w w'->TksA Q w' a l->l.length<=c->Calls Tryz.prog f #[.slice a l.length c,.slice d nr e,.slice la b lc] w' (Mk D w')
def SmD(D:List OpD):Prop:=D.length<=1000000/\∀x∈D,x.sl<=1048576
theorem SmD.small{D}(h:SmD D):xG D.length (df D):=by
 refine⟨Nat.le_trans h.1 (by omega),λi a=>?_⟩;unfold df;rw[List.getD_eq_getElem?_getD,List.getElem?_eq_getElem a];exact h.2 _ (List.getElem_mem a)
theorem TksA.sub{Q:Nat->Prop}{w}{b off:Nat}{l:List Tok}(h:∀i x,l[i]?=some x->TokC Q w b (off+i*4) x)(k n:Nat):TksA Q w (some ⟨b,off+k*4,none⟩) ((l.drop k).take n):=by
 refine .inr ⟨b,off+k*4,rfl,λi x a=>?_⟩;have c:(l.drop k)[i]?=some x:=by
  by_cases e:i<n
  ·rwa [List.getElem?_take_of_lt e]at a
  rw[List.getElem?_take_eq_none (by omega)]at a;cases a
 rw[List.getElem?_drop]at c;have:=h (k+i) x c;rwa [show off+k*4+i*4=off+(k+i)*4 by omega]
theorem urs Q q la r lc nr p t l D w(F:t.kind=33)(O:l.length+1<=1048576)(P:0<l.length)(z:SmD D)(H:BPc 64 Q q la r lc nr p l D w):BPc 64 Q q la r lc nr p (t::l) (unD 7 D) w:=by
 intro a c w' G C E;rw[List.length_cons]at E;rw[List.length_cons];obtain⟨b,off,rfl,n⟩:=C.at (i:=0) (by simp);have o:=(n 0 t rfl).kind;simp only[Nat.zero_mul,Nat.add_zero]at o;rw[F]at o;have B:TksA Q w' (some ⟨b,off+1*4,none⟩) l:=by
  have:=TksA.sub n 1 l.length;rwa [List.drop_succ_cons,List.drop_zero,List.take_length]at this
 have s:=ua (H _ (c-1) w' G B (by omega));have u:Hid (∀W d f,BodP (New w' W) W (.slice d D.length f) D->Keep (λ_=>False) w' W->Calls Tryz.prog 88 #[.int .i64 7,.slice d D.length f] W (Mk (unD 7 D) w')):=λW d f g j=>(jj _ 7 d f D W g.ops z.small).mono (λe m h=>h.from j)
 have L:¬c=1:=by omega
 have N:¬c-1=0:=by omega
 go_enter Tryz.func64,Tryz.ntmps64;go_wp2_with fail;refine s.mono ?_;rintro e W ⟨d,f,rfl,g,j⟩;have v:=ua (u W d f g j);go_wp2_with fail;refine v.mono ?_;intro e m A;have k:Hid (Mk (unD 7 D) w' e m):=A;obtain⟨I,J,rfl,x,y⟩:=k.out;clear x y;go_wp2;go_ret;exact k.out
theorem urt Q q la r lc nr p t l D w(N:t.kind=38)(T:l.length+1<=1048576)(U:0<l.length)(E:SmD D)(F:SmD (unD 7 D))(H:BPc 64 Q q la r lc nr p l D w):BPc 64 Q q la r lc nr p (t::l) (unD 7 (unD 7 D)) w:=by
 intro a c w' O J L;rw[List.length_cons]at L;rw[List.length_cons];obtain⟨b,off,rfl,n⟩:=J.at (i:=0) (by simp);have o:=(n 0 t rfl).kind;simp only[Nat.zero_mul,Nat.add_zero]at o;rw[N]at o;have I:TksA Q w' (some ⟨b,off+1*4,none⟩) l:=by
  have:=TksA.sub n 1 l.length;rwa [List.drop_succ_cons,List.drop_zero,List.take_length]at this
 have s:=ua (H _ (c-1) w' O I (by omega));have u:Hid (∀W d f,BodP (New w' W) W (.slice d D.length f) D->Keep (λ_=>False) w' W->Calls Tryz.prog 88 #[.int .i64 7,.slice d D.length f] W (Mk (unD 7 D) w')):=λW d f g j=>(jj _ 7 d f D W g.ops E.small).mono (λe k h=>h.from j)
 have x:Hid (∀W d f,BodP (New w' W) W (.slice d (unD 7 D).length f) (unD 7 D)->Keep (λ_=>False) w' W->Calls Tryz.prog 88 #[.int .i64 7,.slice d (unD 7 D).length f] W (Mk (unD 7 (unD 7 D)) w')):=λW d f g j=>(jj _ 7 d f (unD 7 D) W g.ops F.small).mono (λe k h=>h.from j)
 have R:¬c=1:=by omega
 have S:¬c-1=0:=by omega
 go_enter Tryz.func64,Tryz.ntmps64;go_wp2_with fail;refine s.mono ?_;rintro e W ⟨d,f,rfl,g,j⟩;have v:=ua (u W d f g j);go_wp2_with fail;refine v.mono ?_;rintro e k ⟨z,A,rfl,g,j⟩;have y:=ua (x k z A g j);go_wp2_with fail;refine y.mono ?_;intro e W2 G;have m:Hid (Mk (unD 7 (unD 7 D)) w' e W2):=G;obtain⟨P,c3,rfl,B,C⟩:=m.out;clear B C;go_wp2;go_ret;exact m.out
theorem upc Q u la v lc nr s t l D w(L:t.kind=42)(V:l.length+1<=1048576)(q:0<l.length)(o:kAt l 0≠33)(p:kAt l 0≠38)(E:SmD D)(H:BPc 64 Q u la v lc nr s l D w):BPc 64 Q u la v lc nr s (l++[t]) (unD 6 D) w:=by
 intro a c w' P I J;rw[List.length_append,List.length_singleton]at J;rw[List.length_append,List.length_singleton];obtain⟨b,off,rfl,k⟩:=I.at (i:=0) (by simp);obtain⟨x,r⟩:∃x,l[0]?=some x:=⟨_,List.getElem?_eq_getElem q⟩;have N:=(k 0 x (by rw[List.getElem?_append_left q];exact r)).kind;have O:=(k l.length t (by simp)).kind;simp only[Nat.zero_mul,Nat.add_zero]at N;rw[L]at O;rw[jR r]at o p;have T:(x.kind==33)=false:=by simpa using o
 have U:(x.kind==38)=false:=by simpa using p
 have G:TksA Q w' (some ⟨b,off,none⟩) l:=by
  have:=TksA.sub k 0 l.length;rwa [List.drop_zero,List.take_left,Nat.zero_mul,Nat.add_zero]at this
 have y:=ua (H _ c w' P G (by omega));have z:Hid (∀W d f,BodP (New w' W) W (.slice d D.length f) D->Keep (λ_=>False) w' W->Calls Tryz.prog 88 #[.int .i64 6,.slice d D.length f] W (Mk (unD 6 D) w')):=λW d f g j=>(jj _ 6 d f D W g.ops E.small).mono (λe n h=>h.from j)
 have X:((l.length+1:Nat):Int)-1=(l.length:Int):=by omega
 go_enter Tryz.func64,Tryz.ntmps64;go_wp2_with fail;refine y.mono ?_;rintro e W ⟨d,f,rfl,g,j⟩;have A:=ua (z W d f g j);go_wp2_with fail;refine A.mono ?_;intro e n F;have m:Hid (Mk (unD 6 D) w' e n):=F;obtain⟨R,S,rfl,B,C⟩:=m.out;clear B C;go_wp2;go_ret;exact m.out
theorem uru Q B la C lc nr A t l D w(T:t.kind=63)(hl:l.length+1<=1048576)(y:0<l.length)(r:kAt l 0≠33)(s:kAt l 0≠38)(N:SmD D)(H:BPc 64 Q B la C lc nr A l D w):BPc 64 Q B la C lc nr A (l++[t]) (uI 5 D (uq 0 0)) w:=by
 intro a c w' X R S;rw[List.length_append,List.length_singleton]at S;rw[List.length_append,List.length_singleton];obtain⟨b,off,rfl,n⟩:=R.at (i:=0) (by simp);obtain⟨x,z⟩:∃x,l[0]?=some x:=⟨_,List.getElem?_eq_getElem y⟩;have U:=(n 0 x (by rw[List.getElem?_append_left y];exact z)).kind;have V:=(n l.length t (by simp)).kind;simp only[Nat.zero_mul,Nat.add_zero]at U;rw[T]at V;rw[jR z]at r s;have Z:(x.kind==33)=false:=by simpa using r
 have e2:(x.kind==38)=false:=by simpa using s
 have P:TksA Q w' (some ⟨b,off,none⟩) l:=by
  have:=TksA.sub n 0 l.length;rwa [List.drop_zero,List.take_left,Nat.zero_mul,Nat.add_zero]at this
 have E:=ua (H _ c w' X P (by omega));have F:Hid (∀W g j W2 d f,BodP (New w' W) W (.slice g D.length j) D->Keep (λ_=>False) w' W->BodP (New W W2) W2 (.slice d (uq 0 0).length f) (uq 0 0)->Keep (λ_=>False) W W2->Calls Tryz.prog 42 #[.int .i64 5,.slice g D.length j,.slice d (uq 0 0).length f] W2 (Mk (uI 5 D (uq 0 0)) w')):=λW g j W2 d f k m L u=>(jk _ _ 5 g d j f D (uq 0 0) W2 (k.later u).ops N.small L.ops ⟨by simp[uq],λi v=>by simp[uq]at v;subst v;simp[df,uq,opd]⟩ (by simp[uq])).mono (λe q h=>h.from (m.trans u))
 have v1:((l.length+1:Nat):Int)-1=(l.length:Int):=by omega
 go_enter Tryz.func64,Tryz.ntmps64;go_wp2_with fail;refine E.mono ?_;rintro e W ⟨g,j,rfl,k,m⟩;have G:Hid (∀W2 d f,BodP (New W W2) W2 (.slice d (uq 0 0).length f) (uq 0 0)->Keep (λ_=>False) W W2->Calls Tryz.prog 42 #[.int .i64 5,.slice g D.length j,.slice d (uq 0 0).length f] W2 (Mk (uI 5 D (uq 0 0)) w')):=λW2 d f=>F W g j W2 d f k m
 go_wp2_with fail;refine(vQ 0 0 W).mono ?_;rintro e W2 ⟨d,f,rfl,k,m⟩;have p:=ua (G W2 d f k m);generalize (uq 0 0).length=ll at p ⊢;go_wp2_with fail;refine p.mono ?_;intro e q O;have o:Hid (Mk (uI 5 D (uq 0 0)) w' e q):=O;obtain⟨Y,c3,rfl,I,J⟩:=o.out;clear I J;go_wp2;go_ret;exact o.out
theorem urq Q j la k lc nr h o cl l D w(v:o.kind=40)(x:cl.kind=41)(G:l.length+2<=1048576)(H:BPc 27 Q j la k lc nr h l D w):BPc 64 Q j la k lc nr h (o::(l++[cl])) D w:=by
 intro a c w' A t u;have y:(o::(l++[cl])).length=l.length+2:=by simp
 rw[y]at u ⊢;obtain⟨b,off,rfl,d⟩:=t.at (i:=0) (by simp);have g:=(d 0 o rfl).kind;have z:=(d (l.length+1) cl (by simp)).kind;simp only[Nat.zero_mul,Nat.add_zero]at g;rw[v]at g;rw[x]at z;have s:TksA Q w' (some ⟨b,off+1*4,none⟩) l:=by
  have:=TksA.sub d 1 l.length;rwa [List.drop_succ_cons,List.drop_zero,List.take_left]at this
 have m:=ua (H _ (c-1) w' A s (by omega));have I:((l.length+2:Nat):Int)-1=((l.length+1:Nat):Int):=by omega
 have E:¬c=1:=by omega
 have F:¬c-1=0:=by omega
 go_enter Tryz.func64,Tryz.ntmps64;go_wp2_with fail;refine m.mono ?_;intro e n r;have f:Hid (Mk D w' e n):=r;obtain⟨B,C,rfl,p,q⟩:=f.out;clear p q;go_wp2;go_ret;exact f.out
theorem jP:∀(r:List Int) (D:List OpD),(r.foldl (λa y=>a++uF (vz y)++[opd 4 0]) D).length=D.length+2*r.length
 |[],D=>by simp
 |y::r,D=>by
  rw[List.foldl_cons,jP r];simp[uF];omega
theorem ueV x w:∃W,(∀(P:Ending->World->Prop),(∀e w',e=.returned (.slice (some ⟨w.heap.size,0,none⟩) 2 2)->w'=W->P e w')->Calls Tryz.prog 44 #[.int .i64 x] w P)/\Calls Tryz.prog 43 #[.slice (some ⟨w.heap.size,0,none⟩) 2 2] W (Mk (uF (vz x)) w):=by
 refine⟨w.alloc (.cells #[.int .i64 x,.int .i64 x] 3),λP b=>(uJ x w).mono (λe w' h=>b e w' h.1 h.2),?_⟩;refine(ji (λ_=>True) (some ⟨w.heap.size,0,none⟩) 2 (vz x) _ (.inr ⟨w.heap.size,0,rfl,trivial,λi c=>?_⟩) (by simp[vz])).mono (λe w' h=>h.from (Keep.alloc _ _ _));have a:=yK w (.cells #[.int .i64 x,.int .i64 x] 3) _ rfl;match i,c with
 |0,_=>exact ul a rfl
 |1,_=>exact ul a rfl
theorem urr Q ra la rc lc nr nl t w(G:t.kind=34)(hz:t.nm.length<=400000)(Y:BytL t.nm):BPc 64 Q ra la rc lc nr nl [t] (ke t.nm) w:=by
 intro a c w' kw X hc;show Calls Tryz.prog 64 #[.slice a 1 c,_,_] w' _;obtain⟨b,off,rfl,aa⟩:=X.at (i:=0) (by simp);have E:=aa 0 t rfl;have k0:=E.kind;obtain⟨na,nc,k2,U⟩:=E.nm;simp only[Nat.zero_mul,Nat.add_zero]at k0 k2;rw[G]at k0;have HI:Hid (Ints Q .u8 w' na t.nm.length (lf t.nm)):=U;clear E aa X U kw G;generalize t.nm=z at *;cases z with
 |nil =>
  go_enter Tryz.func64,Tryz.ntmps64;go_wp2_with fail;refine(vQ 0 0 w').mono ?_;intro e W' W;have L:Hid (Mk (uq 0 0) w' e W'):=W;clear W;obtain⟨P,R,rfl,h2,h3⟩:=L.out;clear h2 h3;go_wp2;go_ret;exact L.out
 |cons x r =>
  have aq:=Y x (by simp);rcases HI.out with q|⟨sb,so,rfl,_,Z⟩
  ·simp at q
  have s0:=Z 0 (by simp);rw[Nat.add_zero,show lf (x::r) 0=x from rfl]at s0;have ad:Hid (∀i y,r[i]?=some y->w'.cell? ⟨sb,so+(i+1),none⟩=some (.int .u8 y)/\0<=y/\y<=255):=λi y d=>by
   have au:=(List.getElem?_eq_some_iff.1 d).1;refine⟨?_,Y y (List.mem_cons_of_mem _ (List.mem_of_getElem? d))⟩;rw[Z (i+1) (by simp;omega)];simp[lf,d]
  rw[List.length_cons]at *;have hn:=hz;obtain⟨W1,v,A⟩:=ueV x w';have m:=ua v;have n:=ua A;have v0:¬((r.length+1:Nat):Int)=0:=by omega
  have ao:∀k,(((r.take k).foldl (λj y=>j++uF (vz y)++[opd 4 0]) (uF (vz x)))).length<=1+2*r.length:=λk=>by
   rw[jP,List.length_take];simp[uF];omega
  have ag:=ua ao;go_enter Tryz.func64,Tryz.ntmps64;go_wp2_with fail;refine m _ ?_;rintro e w1 rfl rfl;go_wp2_with fail;refine n.mono ?_;rintro e W2 ⟨o,p,rfl,s,u⟩;have f:=ua s;have g:=ua u;generalize h:(uF (vz x)).length=m0 at f ⊢;go_wp2_with fail;go_loopw [11,12] (λap H wr=>∃(k:Nat) (D:List OpD) (B:Nat) (o:Option Addr) (p:Nat),k<=r.length/\H=.int .i64 ((k+1:Nat):Int)/\ap=.slice o B p/\B=D.length/\D=(r.take k).foldl (λj y=>j++uF (vz y)++[opd 4 0]) (uF (vz x))/\BodP (New w' wr) wr (.slice o B p) D/\Keep (λ_=>False) w' wr) (λ_ H _=>r.length+2-(intOf H).toNat)
  case atStart=>exact⟨0,uF (vz x),m0,o,p,by omega,rfl,rfl,h.symm,rfl,f,g⟩
  case round =>
   obtain⟨k,D,B,ah,ai,G,rfl,rfl,ac,F,s,u⟩:=hrel;clear f g h;have f:=ua s;have g:=ua u;have C:=ua F;have N:=ua ac;have J:Hid (D.length<=1+2*r.length):=F▸ag k;clear s u F ac;by_cases ab:k<r.length
   ·have hlt':((k+1:Nat):Int)<((r.length+1:Nat):Int):=(by omega);obtain⟨y,d⟩:∃y,r[k]?=some y:=⟨_,List.getElem?_eq_getElem ab⟩;obtain⟨s1,y0,y1⟩:=ad k y d;have s2:=ue s1 g.bel;have ae:Hid (D++uF (vz y)++[opd 4 0]=(r.take (k+1)).foldl (λj y=>j++uF (vz y)++[opd 4 0]) (uF (vz x))):=by
     rw[List.take_add_one,d,Option.toList_some,List.foldl_append,<-C.out];rfl
    obtain⟨W3,v,A⟩:=ueV y wr;have m:=ua v;have n:Hid (Calls Tryz.prog 43 #[.slice (some ⟨wr.heap.size,0,none⟩) 2 2] W3 (Mk (uF (vz y)) wr)):=A;clear v A s1 d C;go_wp2_with fail;refine m.out _ ?_;rintro e w1 rfl rfl;go_wp2_with fail;refine n.out.mono ?_;rintro e W4 ⟨P,R,rfl,T,V⟩;have I:Hid (BodP (New wr W4) W4 (.slice P (uF (vz y)).length R) (uF (vz y))):=T;have af:Hid (Keep (λ_=>False) wr W4):=V;clear T V m n;have l:Hid ((uF (vz y)).length=1):=rfl;generalize h:(uF (vz y)).length=m2 at I l ⊢;go_wp2_with (first|(at_builtin;refine upb rfl _ _ rfl rfl rfl f.out g.out I.out af.out (by have:=J.out;rw[h,l.out];omega) (by rw[h,l.out];omega) ?_;intro a3 c3 n3 O av aj al)|(at_builtin;refine uri (W1:=O) (W2:=O) rfl _ _ rfl rfl rfl aj.out al.out (Keep.refl _ _) (by have:=J.out;have:=l.out;rw[List.length_append];omega) ?_;intro a4 c4 n4 W6 an ak am));go_roundw
    case rel=>exact⟨k+1,D++uF (vz y)++[opd 4 0],n4,a4,c4,ab,by go_num,rfl,an.out,ae.out,ak.out,am.out⟩
    case measure=>simp[intOf];omega
   have hlt':¬((k+1:Nat):Int)<((r.length+1:Nat):Int):=(by omega);go_wp2;go_ret;have e:D=ke (x::r):=(by rw[C.out,List.take_of_length_le (by omega)];rfl);have S:=f;rw[N.out,e]at S;exact⟨ah,ai,by rw[N.out,e];rfl,S,g⟩
theorem ueT{l:List Tok}{i:Nat}{x:Tok}(h:l[i]?=some x)(d a:Int):vN i d a (l.drop i)=vN (i+1) (yO x.kind d) (if x.kind=47/\d=0 then i else a) (l.drop (i+1)):=by rw[xj h,xh]
theorem urj Q o la p lc nr n t f l2 r m w(hl:f.length+(l2.length+1)<=1048576)(R:vN 0 0 (-1) (f++t::l2)=(f.length:Int))(am:0<m.length)(hD:r.length+m.length+1<=16777216)(V:BPc 27 Q o la p lc nr n f r w)(X:BPc 27 Q o la p lc nr n l2 m w):BPc 27 Q o la p lc nr n (f++t::l2) (uI 5 r m) w:=by
 intro a c w' U hT hc;have z:(f++t::l2).length=f.length+(l2.length+1):=by simp
 rw[z]at hc ⊢;obtain⟨b,off,rfl,D⟩:=hT.at (i:=0) (by rw[z];omega);have HC:Hid (∀i,i<f.length+(l2.length+1)->∃x,(f++t::l2)[i]?=some x/\w'.cell? ⟨b,off+i*4,none⟩=some (.int .u8 x.kind)):=λi E=>⟨_,List.getElem?_eq_getElem (by rw[z];exact E),(D i _ (List.getElem?_eq_getElem (by rw[z];exact E))).kind⟩
 have ad:Hid (Calls Tryz.prog 27 #[.slice (some ⟨b,off,none⟩) f.length c,.slice o nr p,.slice la n lc] w' (Mk r w')):=by
  refine V _ c w' U ?_ (by omega);have:=TksA.sub D 0 f.length;rwa [List.drop_zero,List.take_left,Nat.zero_mul,Nat.add_zero]at this
 have ae:Hid (∀W g j,Keep (λ_=>False) w' W->(g=some ⟨b,off+(f.length+1)*4,none⟩\/l2 = [])->l2.length<=j->Calls Tryz.prog 27 #[.slice g l2.length j,.slice o nr p,.slice la n lc] W (Mk m W)):=λW g j S ha ai=>by
  refine X g j W (U.trans S) ?_ ai;rcases ha with rfl|h
  ·have:=TksA.sub D (f.length+1) l2.length;rw[show(f++t::l2).drop (f.length+1)=l2 by rw[<-List.drop_drop,List.drop_left];rfl,List.take_length]at this;exact this.later S.bel
  exact .inl h
 obtain⟨B,J⟩:∃B:Int,B=(f.length:Int):=⟨_,rfl⟩;rw[<-J]at R;have aa:=ua J;generalize hL:f++t::l2=L at *;go_enter Tryz.func27,Tryz.ntmps27;go_wp2;go_loopw [7,8,9] (λv7 v8 F wr=>∃(i:Nat) (d l:Int),i<=f.length+(l2.length+1)/\v7=.int .i64 l/\v8=.int .i64 d/\F=.int .i64 i/\wr=w'/\-(i:Int)<=d/\d<=i/\vN i d l (L.drop i)=B) (λ_ _ F _=>f.length+(l2.length+1)-(intOf F).toNat)
 case atStart=>exact⟨0,0,-1,by omega,rfl,rfl,rfl,rfl,by omega,by omega,R⟩
 case round =>
  obtain⟨i,d,l,E,rfl,rfl,rfl,rfl,ao,ap,y⟩:=hrel;by_cases al:i<f.length+(l2.length+1)
  ·have hlt':(i:Int)<((f.length+(l2.length+1):Nat):Int):=(by omega);obtain⟨x,hx,A⟩:=HC i al;rw[ueT hx]at y;have C:=ua y;by_cases s:x.kind=40
   ·have e:=C;rw[s,xO,if_neg (by omega)]at e;rw[s]at A;have k:=ua e;go_wp2;go_roundw
    case rel=>exact⟨i+1,d+1,l,by omega,rfl,by go_num,by go_num,by trivial,by omega,by omega,k⟩
    case measure=>simp[intOf];omega
   have y1:(x.kind==40)=false:=(by simpa using s);by_cases u:x.kind=41
   ·have e:=C;rw[u,kS,if_neg (by omega)]at e;rw[u]at A;have k:=ua e;go_wp2;go_roundw
    case rel=>exact⟨i+1,d-1,l,by omega,rfl,by go_num,by go_num,by trivial,by omega,by omega,k⟩
    case measure=>simp[intOf];omega
   have y2:(x.kind==41)=false:=(by simpa using u);have e:=C;rw[uL s u]at e;by_cases v:x.kind=47/\d=0
   ·rw[if_pos v]at e;obtain⟨q1,rfl⟩:=v;rw[q1]at A;have k:=ua e;go_wp2;go_roundw
    case rel=>exact⟨i+1,0,i,by omega,rfl,rfl,by go_num,by trivial,by omega,by omega,k⟩
    case measure=>simp[intOf];omega
   rw[if_neg v]at e;have k:=ua e;by_cases h:x.kind=47
   ·have an:(d==0)=false:=by simpa using λq=>v ⟨h,q⟩
    rw[h]at A;go_wp2;go_roundw
    case rel=>exact⟨i+1,d,l,by omega,rfl,rfl,by go_num,by trivial,by omega,by omega,k⟩
    case measure=>simp[intOf];omega
   have y3:(x.kind==47)=false:=(by simpa using h);go_wp2;go_roundw
   case rel=>exact⟨i+1,d,l,by omega,rfl,rfl,by go_num,by trivial,by omega,by omega,k⟩
   case measure=>simp[intOf];omega
  have hlt':¬(i:Int)<((f.length+(l2.length+1):Nat):Int):=by omega
  have e:l=B:=by
   rw[List.drop_of_length_le (by rw[<-hL];simp;omega),vN]at y;exact y
  rw[aa.out]at e;subst e;go_wp2_with fail;refine ad.mono ?_;rintro e W1 ⟨a1,c1,rfl,af,O⟩;have Y:=ua af;have ab:=ua O;have G:Hid (∀g j,(g=some ⟨b,off+(f.length+1)*4,none⟩\/l2 = [])->l2.length<=j->Calls Tryz.prog 27 #[.slice g l2.length j,.slice o nr p,.slice la n lc] W1 (Mk m W1)):=λg j=>ae W1 g j O
  have hq:f.length+(l2.length+1)-(f.length+1)=l2.length:=by omega
  go_wp2_with fail;all_goals (
   refine Calls.mono (G _ _ (by first|exact .inl rfl|exact .inr (List.eq_nil_of_length_eq_zero (by omega))) (by omega)) ?_;rintro e W2 ⟨a2,c2,rfl,N,P⟩;have Z:=ua N;have ac:=ua P;clear N P G;go_wp2_with (first|(at_builtin;refine upb rfl _ _ rfl rfl rfl Y.out ab.out Z.out ac.out (by omega) am ?_;intro a3 c3 n3 H aq ag aj)|(at_builtin;refine uri (W1:=H) (W2:=H) rfl _ _ rfl rfl rfl ag.out aj.out (Keep.refl _ _) (by rw[List.length_append];omega) ?_;intro a4 c4 n4 W6 T ah ak));go_ret;have I:=ah;rw[T.out]at I;exact⟨a4,c4,by rw[T.out];rfl,I,ak⟩)
def qo:List OpD->List (List Tok×List OpD)->List OpD
 |D,[]=>D
 |D,p::r=>qo (D++p.2++[opd 4 0]) r
theorem udq:∀(r:List (List Tok×List OpD)) (D:List OpD),D.length<=(qo D r).length
 |[],D=>Nat.le_refl _
 |p::r,D=>by
  have:=udq r (D++p.2++[opd 4 0]);rw[List.length_append,List.length_append]at this;rw[qo];omega
def vg(a:List (List Tok×List OpD)):List Tok:=a.flatMap (·.1)
def qp(P:List Tok->List OpD->Prop):List (List Tok×List OpD)->Prop
 |[]=>True
 |p::r=>(kT (p.1++vg r)=p.1.length/\jc (p.1++vg r)/\0<p.1.length/\0<p.2.length/\P p.1 p.2)/\qp P r
theorem urp Q y la z lc nr v(m:List Tok×List OpD)o D w(hD:qo m.2 o=D)(be:D.length<=1000000)(ac:vN 0 0 (-1) (vg (m::o)) = -1)(hl:(vg (m::o)).length<=1048576)(hP:qp (λl D=>BPc 64 Q y la z lc nr v l D w) (m::o)):BPc 27 Q y la z lc nr v (vg (m::o)) D w:=by
 intro a c w' kw hT hc;have a5:0<(vg (m::o)).length:=by
  have:=hP.1.2.2.1;show 0<(m.1++vg o).length;rw[List.length_append];omega
 obtain⟨b,off,rfl,R⟩:=hT.at (i:=0) a5;obtain⟨L,hL⟩:∃L,vg (m::o)=L:=⟨_,rfl⟩;rw[hL]at hc ac hl a5 R ⊢;have Z:Hid (∀i,i<L.length->∃x,L[i]?=some x/\w'.cell? ⟨b,off+i*4,none⟩=some (.int .u8 x.kind)):=λi hi=>⟨_,List.getElem?_eq_getElem hi,(R i _ (List.getElem?_eq_getElem hi)).kind⟩
 have HT:Hid (∀W k n,Keep (λ_=>False) w' W->TksA Q W (some ⟨b,off+k*4,none⟩) ((L.drop k).take n)):=λW k n hk=>(TksA.sub R k n).later hk.bel
 have HP:Hid (qp (λl D=>BPc 64 Q y la z lc nr v l D w') (m::o)):=by
  have go:∀X,qp (λl D=>BPc 64 Q y la z lc nr v l D w) X->qp (λl D=>BPc 64 Q y la z lc nr v l D w') X:=λX=>by
   induction X with
   |nil=>exact λ_=>trivial
   |cons p r ih=>exact λh=>⟨⟨h.1.1,h.1.2.1,h.1.2.2.1,h.1.2.2.2.1,λa c W hk=>h.1.2.2.2.2 a c W (kw.trans hk)⟩,ih h.2⟩
  exact go _ hP
 clear R hT hP kw;obtain⟨B,hB⟩:=nm (vN 0 0 (-1) L);have ag:=ua (hB.symm.trans ac);clear ac;go_enter Tryz.func27,Tryz.ntmps27;go_wp2;go_loopw [7,8,9] (λv7 v8 v9 wr=>∃(i:Nat) (d u:Int),i<=L.length/\v7=.int .i64 u/\v8=.int .i64 d/\v9=.int .i64 i/\wr=w'/\-(i:Int)<=d/\d<=i/\vN i d u (L.drop i)=B) (λ_ _ v9 _=>L.length-(intOf v9).toNat)
 case atStart=>exact⟨0,0,-1,by omega,rfl,rfl,rfl,rfl,by omega,by omega,hB⟩
 case round =>
  obtain⟨i,d,u,hi,rfl,rfl,rfl,bc,bh,bi,F⟩:=hrel;obtain rfl:=bc.symm;clear hB;by_cases ba:i<L.length
  ·have hlt':(i:Int)<(L.length:Int):=(by omega);obtain⟨x,hx,T⟩:=Z i ba;rw[ueT hx]at F;have A:=ua F;clear F hx Z HP;by_cases O:x.kind=40
   ·have e:=A;rw[O,xO,if_neg (by omega)]at e;rw[O]at T;have t:=ua e;clear e A;go_wp2;go_roundw
    case rel=>exact⟨i+1,d+1,u,by omega,rfl,by go_num,by go_num,by trivial,by omega,by omega,t⟩
    case measure=>simp[intOf];omega
   have y1:(x.kind==40)=false:=(by simpa using O);by_cases P:x.kind=41
   ·have e:=A;rw[P,kS,if_neg (by omega)]at e;rw[P]at T;have t:=ua e;clear e A y1;go_wp2;go_roundw
    case rel=>exact⟨i+1,d-1,u,by omega,rfl,by go_num,by go_num,by trivial,by omega,by omega,t⟩
    case measure=>simp[intOf];omega
   have y2:(x.kind==41)=false:=(by simpa using P);have e:=A;rw[uL O P]at e;by_cases G:x.kind=47/\d=0
   ·rw[if_pos G]at e;obtain⟨V,rfl⟩:=G;rw[V]at T;have t:=ua e;clear e A y1 y2;go_wp2;go_roundw
    case rel=>exact⟨i+1,0,i,by omega,rfl,rfl,by go_num,by trivial,by omega,by omega,t⟩
    case measure=>simp[intOf];omega
   rw[if_neg G]at e;have t:=ua e;clear e A;by_cases h:x.kind=47
   ·have bg:(d==0)=false:=by simpa using λq=>G ⟨h,q⟩
    rw[h]at T;clear y1 y2 G h;go_wp2;go_roundw
    case rel=>exact⟨i+1,d,u,by omega,rfl,rfl,by go_num,by trivial,by omega,by omega,t⟩
    case measure=>simp[intOf];omega
   have y3:(x.kind==47)=false:=(by simpa using h);go_wp2;go_roundw
   case rel=>exact⟨i+1,d,u,by omega,rfl,rfl,by go_num,by trivial,by omega,by omega,t⟩
   case measure=>simp[intOf];omega
  have hlt':¬(i:Int)<(L.length:Int):=by omega
  have e:u=B:=by
   rw[List.drop_of_length_le (by omega),vN]at F;exact F
  rw[ag.out]at e;subst e;clear F Z ag;have hz:¬(L.length:Int)=0:=by omega
  have a7:=ua hL;have ai:Hid (qo m.2 o=D):=hD;clear hL hD;go_wp2_with fail;go_loopw [12,13] (λbd ae W=>∃(i:Nat) (rest:List (List Tok×List OpD)) (g:List OpD) (U:Nat) (I:Option Addr) (J:Nat),i<=L.length/\ae=.int .i64 i/\bd=.slice I U J/\U=g.length/\L.drop i=vg rest/\((i=0/\g = []/\rest=m::o)\/(0<i/\qo g rest=D))/\qp (λl D=>BPc 64 Q y la z lc nr v l D w') rest/\BodP (New w' W) W (.slice I U J) g/\Keep (λ_=>False) w' W) (λ_ ae _=>L.length-(intOf ae).toNat)
  case atStart=>exact⟨0,m::o,[],0,none,0,by omega,rfl,rfl,rfl,by rw[List.drop_zero,a7.out],.inl ⟨rfl,rfl,rfl⟩,HP,BodP.nil _ _,Keep.refl _ _⟩
  case round =>
   obtain⟨j,rest,g,U,I,J,hj,rfl,rfl,ax,S,a6,az,an,ap⟩:=hrel;have HN:=ua ax;have Y:=ua an;have C:=ua ap;have H:Hid ((j=0/\g = []/\rest=m::o)\/(0<j/\qo g rest=D)):=a6;clear ax an ap a6 HP;by_cases bk:j<L.length
   ·have hjl':(j:Int)<(L.length:Int):=(by omega);cases rest with
    |nil =>
     have:(L.drop j).length=0:=(by rw[S];rfl);rw[List.length_drop]at this;omega
    |cons p r =>
     obtain⟨⟨V,q2,q3,q4,q5⟩,a0⟩:=az;have E:L.drop j=p.1++vg r:=S;have au:(L.drop j).length=p.1.length+(vg r).length:=(by rw[E,List.length_append]);rw[List.length_drop]at au;have av:L.drop (j+p.1.length)=vg r:=(by rw[<-List.drop_drop,E,List.drop_left]);have am:Hid (Calls Tryz.prog 63 #[.slice (some ⟨b,off+j*4,none⟩) (L.length-j) (c-j)] wr λe w1=>e=.returned (.int .i64 (p.1.length:Nat))/\w1=wr):=by
      have h:=uiC Q (L.drop j) (some ⟨b,off+j*4,none⟩) (c-j) wr (by
       have:=HT wr j (L.drop j).length C;rwa [List.take_length]at this) (by rw[List.length_drop];omega) (by rw[E];exact q2)
      rw[List.length_drop,E,V]at h;exact h
     have ah:Hid (Calls Tryz.prog 64 #[.slice (some ⟨b,off+j*4,none⟩) p.1.length (c-j),.slice y nr z,.slice la v lc] wr (Mk p.2 wr)):=by
      refine q5 _ (c-j) wr C ?_ (by omega);have:=HT wr j p.1.length C;rwa [E,List.take_left]at this
     have bl:j+p.1.length<=L.length:=(by omega);clear V q2 q5 S E au;have bf:¬c-j=0:=(by omega);have hcj':¬c=j:=(by omega);have hq:j+p.1.length-j=p.1.length:=(by omega);have bm:(j:Int)+(p.1.length:Int)<=(c:Int):=(by omega);have bn:(j:Int)<=(j:Int)+(p.1.length:Int):=(by omega);have al:Hid (qp (λl D=>BPc 64 Q y la z lc nr v l D w') r):=a0;have aj:Hid (L.drop (j+p.1.length)=vg r):=av;have aa:Hid (g.length+p.2.length+1<=16777216):=by
      show g.length+p.2.length+1<=16777216;rcases H.out with⟨_,s,f⟩|⟨_,f⟩
      ·injection f with f N;subst f N s;have:=udq r p.2;rw[ai.out]at this;simp;omega
      rw[qo]at f;have:=udq r (g++p.2++[opd 4 0]);rw[f,List.length_append,List.length_append,List.length_singleton]at this;omega
     clear a0 av;go_wp2_with fail;refine am.mono ?_;rintro e W ⟨rfl,hw⟩;subst W;go_wp2_with fail;refine ah.out.mono ?_;rintro e W4 ⟨a2,c2,rfl,ao,aq⟩;have af:Hid (BodP (New wr W4) W4 (.slice a2 p.2.length c2) p.2):=ao;have ak:Hid (Keep (λ_=>False) wr W4):=aq;clear ao aq am ah;by_cases aw:j=0
     ·subst aw;go_wp2_with (at_builtin;refine upb rfl _ _ rfl rfl rfl Y.out C.out af.out ak.out (by have:=aa.out;omega) q4 ?_;intro a3 c3 n3 W5 ay ab ad);go_roundw
      case rel =>
       rcases H.out with⟨_,s,f⟩|⟨s,_⟩
       ·injection f with f N;refine⟨p.1.length,r,g++p.2,n3,a3,c3,by omega,by simp,rfl,ay.out,by have:=aj.out;rwa [Nat.zero_add]at this,.inr ⟨q3,?_⟩,al.out,ab.out,ad.out⟩;rw[s,f,N,List.nil_append];exact ai.out
       omega
      case measure=>simp[intOf];omega
     have bj:(0:Int)<(j:Int):=(by omega);go_wp2_with (first|(at_builtin;refine upb rfl _ _ rfl rfl rfl Y.out C.out af.out ak.out (by have:=aa.out;omega) q4 ?_;intro a3 c3 n3 W5 ay ab ad)|(at_builtin;refine uri (W1:=W5) (W2:=W5) rfl _ _ rfl rfl rfl ab.out ad.out (Keep.refl _ _) (by have:=aa.out;rw[List.length_append];omega) ?_;intro a4 c4 n4 W6 bb a8 a9));go_roundw
     case rel =>
      rcases H.out with⟨s,_⟩|⟨_,f⟩
      ·exact absurd s aw
      exact⟨j+p.1.length,r,g++p.2++[opd 4 0],n4,a4,c4,by omega,by simp,rfl,bb.out,aj.out,.inr ⟨by omega,by rw[qo]at f;exact f⟩,al.out,a8.out,a9.out⟩
     case measure=>simp[intOf];omega
   have hjl':¬(j:Int)<(L.length:Int):=(by omega);cases rest with
   |cons p r =>
    have N:=az.1.2.2.1;have:(L.drop j).length=(p.1++vg r).length:=(by rw[S];rfl);rw[List.length_drop,List.length_append]at this;omega
   |nil =>
    have e:g=D:=by
     rcases H.out with⟨s,_,f⟩|⟨_,f⟩
     ·omega
     exact f
    go_wp2;go_ret;have s:=Y;rw[HN.out,e]at s;exact⟨I,J,by rw[HN.out,e];rfl,s,C⟩
end Go.Proofs.YtimfigongapdnaaGreat
