import Derived.Test.YtimfigongapdnaaGreatT04
set_option linter.unusedVariables false
set_option linter.unusedSimpArgs false
set_option maxHeartbeats 40000000
set_option maxRecDepth 100000
namespace Go.Proofs.YtimfigongapdnaaGreat
open Go.RowKit
open M (OpD ug Gr ur)
def frv(f:FrD):List Value:=[.int .i64 f.kind,.int .i64 f.to,.int .i64 (f.pos:Int),.int .i64 (f.log:Int)]
def vU(l:List FrD):List Value:=l.flatMap frv
theorem uhP l f:vU (l++[f])=vU l++frv f:=by simp[vU]
theorem ui5 l:(vU l).length=l.length*4:=by
 induction l with
 |nil=>rfl
 |cons x l a =>
  have:vU (x::l)=frv x++vU l:=rfl;rw[this,List.length_append,a,List.length_cons];show 4+_=_;omega
theorem ud2:∀(l:List FrD) (i j:Nat) (x:FrD),l[i]?=some x->j<4->(vU l)[i*4+j]?=(frv x)[j]?
 |[],i,j,x,h,_=>by simp at h
 |y::l,0,j,x,h,hj=>by
  simp at h;subst h;show(frv y++vU l)[0*4+j]?=_;rw[List.getElem?_append_left (by show 0*4+j<4;omega)];simp
 |y::l,i+1,j,x,h,hj=>by
  simp at h;show(frv y++vU l)[(i+1)*4+j]?=_;have a:(frv y).length=4:=rfl;rw[List.getElem?_append_right (by rw[a];omega),a,show(i+1)*4+j-4=i*4+j by omega];exact ud2 l i j x h hj
theorem kC{Q w a c l}(h:OwnC Q w (.slice a l.length c) 4 l.length (vU l)):FrA w a l:=by
 rcases h with⟨_,e,_⟩|⟨g,cap,e,q,p,n,k,r⟩
 ·exact .inl e
 obtain rfl:a=some ⟨g,0,none⟩:=by injection e
 refine .inr ⟨g,rfl,λi f d=>?_⟩;have o:=(List.getElem?_eq_some_iff.1 d).1;have b:∀j,j<4->w.cell? ⟨g,i*4+j,none⟩=(frv f)[j]?:=λj m=>by
  rw[k _ (by rw[ui5];omega),ud2 l i j f d m]
 exact⟨b 0 (by omega),b 1 (by omega),b 2 (by omega),b 3 (by omega)⟩
theorem uk{Q w v b n cs}(h:OwnC Q w v b n cs):∃a c,v=.slice a n c:=by
 rcases h with⟨rfl,rfl,_⟩|⟨g,cap,rfl,_⟩
 ·exact⟨none,0,rfl⟩
 exact⟨_,_,rfl⟩
theorem uC{Q Q' w v a n cs}(h:OwnC Q w v a n cs)(k:∀b,Q b->Q' b):OwnC Q' w v a n cs:=by
 rcases h with h|⟨g,cap,e,d,c⟩
 ·exact .inl h
 exact .inr ⟨g,cap,e,k g d,c⟩
theorem uqi:(Tryz.prog.info? 190).map (λi=>(i.zero,i.size,i.bytes))=some (some (.agg #[.int .i64 0,.int .i64 0,.int .i64 0,.int .i64 0]),4,32):=by kernel_rfl
theorem uqj:vG 153 190 4 32:=⟨Tryz.underlying153,⟨_,uqi,rfl⟩,by omega⟩
theorem use{w W:World}(f:FrD)(y:Nat)(c:w.heap.size=y)(k:Below (w.alloc (.cells #[.int .i64 f.kind,.int .i64 f.to,.int .i64 (f.pos:Int),.int .i64 (f.log:Int)] 190)).heap.size (w.alloc (.cells #[.int .i64 f.kind,.int .i64 f.to,.int .i64 (f.pos:Int),.int .i64 (f.log:Int)] 190)) W):Src Tryz.prog 4 153 (.slice (some ⟨y,0,none⟩) 1 1) 1 (frv f) W:=by
 subst c;refine Src.ofSlice (P:=Tryz.prog) _ Tryz.underlying153 ⟨w.heap.size,0,none⟩ 1 1 (frv f) rfl (λj u a=>?_) (λu a=>?_)
 ·have e':(⟨w.heap.size,0,none⟩:Addr).add j=⟨w.heap.size,j,none⟩:=by
   by_cases b:j=0
   ·subst b;simp[Addr.add]
   simp[Addr.add,b]
  rw[e'];match j,a with
  |0,a=>exact ue (cN w.heap.size rfl a) k
  |1,a=>exact ue (cN w.heap.size rfl a) k
  |2,a=>exact ue (cN w.heap.size rfl a) k
  |3,a=>exact ue (cN w.heap.size rfl a) k
  |j+4,a=>simp[frv]at a
 simp[frv]at a;rcases a with rfl|rfl|rfl|rfl<;>rfl
structure Kept(K:Nat->Prop)(w w':World):Prop where
 os:w'.os=w.os
 tape:w'.tape=w.tape
 output:w'.output=w.output
 size:w.heap.size<=w'.heap.size
 block:∀b,b<w.heap.size->¬K b->w'.heap[b]?=w.heap[b]?
theorem Kept.of{K w w'}(h:Below w.heap.size w w'):Kept K w w':=⟨h.os,h.tape,h.output,h.size,λb a _=>h.block b a⟩
theorem Kept.set{K w w'}(h:Kept K w w')b o v(d:w.heap.size<=b):Kept K w (w'.setCell ⟨b,o,none⟩ v) :=
 ⟨h.os,h.tape,h.output,by rw[uj];exact h.size,λx c a=>(Below.heap_setCell _ _ _ x (λe=>by simp at e;omega)).trans (h.block x c a)⟩
def ui6(K:Nat->Prop)(s:MSt)(la:Option Addr)(lc:Nat)(a:Option Addr)(d c:Nat)(w:World)(e:Ending)(w':World):Prop :=
 ∃ka kc,e=.returned (stV s ka kc la lc a d c)/\OwnC (λb=>K b\/New w w' b) w' (.slice ka s.st.length kc) 4 s.st.length (vU s.st)/\Kept K w w'
theorem uoh{K:Nat->Prop}{s s':MSt}{ka la d:Option Addr}{kc lc f e:Nat}{w w':World}(g:s'.st=s.st)(h:OwnC K w (.slice ka s.st.length kc) 4 s.st.length (vU s.st))(i:∀b,K b->b<w.heap.size)(c:Below w.heap.size w w'):ui6 K s' la lc d f e w (.returned (stV s' ka kc la lc d f e)) w':=by
 refine⟨ka,kc,rfl,?_,Kept.of c⟩;rw[g];exact uC (h.on (λz a=>c.block z (i z a))) (λz a=>.inl a)
theorem uoi{K:Nat->Prop}{s s':MSt}{f:FrD}{ka la c:Option Addr}{n kc lc i d:Nat}{w Y W w':World}(m:s'={ s with st:=s.st++[f] })(v:s.st.length=n)(r:Below w.heap.size w Y)(o:OwnC (λb=>K b\/Y.heap.size<=b) W (.slice ka (n+1) kc) 4 (n+1) (vU s.st++frv f))(A:∀b,K b->b<w.heap.size)(z:Grew (λb=>K b) Y W)(p:Stay (λb=>(K b\/Y.heap.size<=b)) W w')(t:Kept K w w'):ui6 K s' la lc c i d w (.returned (stV s' ka kc la lc c i d)) w':=by
 refine⟨ka,kc,rfl,?_,t⟩;subst m;show OwnC _ _ (.slice ka (s.st++[f]).length kc) 4 (s.st++[f]).length (vU (s.st++[f]));rw[uhP,List.length_append,List.length_singleton,v];have h:=o.on p;rcases h with h|⟨g,cap,e,x,j,k,l,a⟩
 ·exact .inl h
 refine .inr ⟨g,cap,e,?_,j,k,l,a⟩;rcases x with q|q
 ·exact .inl q
 obtain⟨u,y⟩:=Option.isSome_iff_exists.1 (a 0 (by omega)).1;exact .inr ⟨by have:=r.size;omega,ud y⟩
theorem Kept.grew{K w Y W}(a:Below w.heap.size w Y)(c:Grew (λb=>K b) Y W):Kept K w W :=
 ⟨c.os.trans a.os,c.tape.trans a.tape,c.output.trans a.output,Nat.le_trans a.size c.size,λb d e=>(c.block b (by have:=a.size;omega) e).trans (a.block b d)⟩
theorem uko Q w:Stay Q w w:=λ_ _=>rfl
theorem uoj{Q w W}(h:Stay Q w W)b o v(a:¬Q b):Stay Q w (W.setCell ⟨b,o,none⟩ v):=h.trans (ugF W ⟨b,o,none⟩ v a)
theorem ui7 K s f most ka la a kc lc d c w(L:OwnC K w (.slice ka s.st.length kc) 4 s.st.length (vU s.st))(P:∀b,K b->b<w.heap.size)(Q:s.st.length<=1000) :
  Calls Tryz.prog 132 #[stV s ka kc la lc a d c,.agg #[.int .i64 f.kind,.int .i64 f.to,.int .i64 (f.pos:Int),.int .i64 (f.log:Int)],.int .i64 most] w (ui6 K (s.push f most) la lc a d c w):=by
 have l:Hid (∀W,Calls Tryz.prog 92 #[stV s ka kc la lc a d c,.int .i64 3] W (ua7 (stV (s.fin 3) ka kc la lc a d c) W)):=λW=>uav s ka la a kc lc d c 3 W
 have k:=ua L;have g:=ua P;simp only[xp]at l ⊢;obtain⟨n,m⟩:=nm s.st.length;obtain⟨ln,A⟩:=nm s.log.length;have H:=m;have I:=A;rw[m]at Q k;simp only[H,I]at l ⊢;have h:=ua m;have t:=ua A;unfold stC;by_cases B:most<=(n:Int)
 ·have i:Hid (s.push f most=s.fin 3):=by show _=_;unfold MSt.push;rw[if_pos (by rw[h.out];exact B)]
  go_enter Tryz.func132,Tryz.ntmps132;go_wp2_with fail;refine(l _).mono ?_;rintro e W ⟨rfl,u⟩;have N:=(ux ((w.alloc (.cells (stC s ka n kc la ln lc a d c) 155)).alloc (.cells #[.int .i64 f.kind,.int .i64 f.to,.int .i64 (f.pos:Int),.int .i64 (f.log:Int)] 190)) st0 155).on u;obtain⟨y,q,C⟩:=N.x;have D:Hid _:=uf (udT w _ _ _) u;simp only[World.size_alloc]at y q C;unfold st0 at y;unfold stC;go_wp2;refine bodyPost_ret (v:=stV (s.push f most) ka kc la lc a d c) ?_ rfl (uoh (s:=s) (by rw[i.out];rfl) (by rw[h.out];exact k) g ?_)
  ·rw[i.out,xp];simp[results,Tryz.f132,go_sem,stC,MSt.fin,h.out,t.out, *]
  repeat with_reducible first|exact D.out|refine uK ?_ _ _ _ (by omega)
 have i:Hid (s.push f most={ s with st:=s.st++[f] }):=by show _=_;unfold MSt.push;rw[if_neg (by rw[h.out];exact B)]
 go_enter Tryz.func132,Tryz.ntmps132;go_wp2_with (at_builtin;refine ukw rfl _ _ 153 153 rfl rfl rfl uqj (k.on (λz S=>(uf (udT w _ _ _) (ui _ _)).block z (g z S))) (use f (w.heap.size+1+1+1) (by simp) (Below.refl _ _)) (by omega) (λ_=>Nat.one_pos) ?_;intro V W4 o j R;obtain⟨F,G,rfl⟩:=uk o;have E:=ua o;have r:=ua j;obtain⟨z,p,lz⟩:=((((ux w _ 155).al _).al _).al _).blk (j.block _ (by simp;omega) (λq=>absurd (g _ q) (by omega))) |>.x;obtain⟨y,q,C⟩:=(yG ((w.alloc _).alloc _) _ 155 (w.heap.size+1+1) (by simp)).al _ |>.blk (j.block _ (by simp) (λq=>absurd (g _ q) (by omega))) |>.x;clear o j R);refine bodyPost_ret (v:=stV (s.push f most) F G la lc a d c) ?_ rfl (uoi (s:=s) (f:=f) (n:=n) i h (uf (udT w _ _ _) (ui _ _)) E g r ?_ ?_)
 ·rw[i.out,xp];simp[results,Tryz.f132,go_sem,stC,h.out,t.out, *]
 ·have J:∀b,w.heap.size<=b->b<w.heap.size+4->¬(K b\/w.heap.size+1+1+1+1<=b):=λb T U q=>q.elim (λq=>absurd (g _ q) (by omega)) (λq=>by omega)
  simp only[World.size_alloc];repeat with_reducible first|exact uko _ _|refine uoj ?_ _ _ _ (J _ (by omega) (by omega))
 have O:=Kept.grew (uf (udT w _ _ _) (ui _ _)) r;repeat with_reducible first|exact O|refine Kept.set ?_ _ _ _ (by omega)
open M (EX ins)
structure IC where
 d:ur
 a:Option Addr
 c:Nat
def icv(x:IC):List Value:=[.int .i64 x.d.kind,.int .i64 x.d.arg,.int .i64 x.d.to,.slice x.a x.d.sl x.c]
def ic(k a t:Int):IC:=⟨ins k a t,none,0⟩
def uG:List IC->List Value
 |[]=>[]
 |x::l=>icv x++uG l
theorem ube x:(icv x).length=4:=rfl
theorem uaG l:(uG l).length=l.length*4:=by
 induction l with
 |nil=>rfl
 |cons x l a=>rw[uG,List.length_append,a,ube];simp only[List.length_cons];omega
theorem uc5 l m:uG (l++m)=uG l++uG m:=by
 induction l with
 |nil=>rfl
 |cons x l a=>rw[List.cons_append,uG,uG,a,List.append_assoc]
theorem uaH:∀(l:List IC) (i j:Nat) (x:IC),l[i]?=some x->j<4->(uG l)[i*4+j]?=(icv x)[j]?
 |[],i,j,x,h,_=>by simp at h
 |y::l,0,j,x,h,hj=>by
  simp at h;subst h;rw[uG,List.getElem?_append_left (by rw[ube];omega)];simp
 |y::l,i+1,j,x,h,hj=>by
  simp at h;rw[uG,List.getElem?_append_right (by rw[ube];omega),ube,show(i+1)*4+j-4=i*4+j by omega];exact uaH l i j x h hj
theorem uh5 l:∀u,u∈uG l->u.oneCell'=true:=by
 induction l with
 |nil=>intro u a;cases a
 |cons x l b =>
  intro u a;rw[uG]at a;rcases List.mem_append.1 a with h|h
  ·simp[icv]at h;rcases h with rfl|rfl|rfl|rfl<;>rfl
  exact b u h
def SetsA(S:Nat->Prop)(w:World)(l:List IC):Prop:=∀x,x∈l->Ints S .i64 w x.a x.d.sl x.d.set
theorem SetsA.on{S w w' l}(h:SetsA S w l)(k:Stay S w w'):SetsA S w' l:=λx a=>(h x a).on k
theorem SetsA.later{S w w' l}(h:SetsA S w l)(k:Below w.heap.size w w'):SetsA S w' l:=λx a=>(h x a).later k
theorem SetsA.wide{S a w l}(h:SetsA S w l)(k:∀b,S b->a b):SetsA a w l:=λx c=>(h x c).wide k
theorem SetsA.app{S w l m}(h:SetsA S w l)(k:SetsA S w m):SetsA S w (l++m):=λx a=>(List.mem_append.1 a).elim (h x) (k x)
theorem uh6:vG 33 86 4 48:=⟨Tryz.underlying33,⟨_,usd,rfl⟩,by omega⟩
structure IRowP(w0 w:World)(v:Value)(l:List IC)(P S:Nat->Prop):Prop where
 own:OwnC P w v 4 l.length (uG l)
 sets:SetsA S w l
 p:∀b,P b->w0.heap.size<=b/\b<w.heap.size/\¬S b
 s:∀b,S b->w0.heap.size<=b/\b<w.heap.size
 bel:Below w0.heap.size w0 w
 ne:v=.slice none 0 0\/0<l.length
def IRow(w0 w:World)(v:Value)(l:List IC):Prop:=∃P S,IRowP w0 w v l P S
theorem uab{Q w w' v a n cs}(h:OwnC Q w v a n cs)(d:∀b,Q b->b<w.heap.size)(k:Below w.heap.size w w'):OwnC Q w' v a n cs :=
 h.on (λb c=>k.block b (d b c))
theorem IRowP.later{w0 w w' v l P S}(h:IRowP w0 w v l P S)(k:Below w.heap.size w w'):IRowP w0 w' v l P S :=
 ⟨uab h.own (λb a=>(h.p b a).2.1) k,h.sets.later k,λb a=>⟨(h.p b a).1,Nat.lt_of_lt_of_le (h.p b a).2.1 k.size,(h.p b a).2.2⟩,λb a=>⟨(h.s b a).1,Nat.lt_of_lt_of_le (h.s b a).2 k.size⟩,h.bel.trans (k.mono h.bel.size),h.ne⟩
theorem IRow.later{w0 w w' v l}(h:IRow w0 w v l)(k:Below w.heap.size w w'):IRow w0 w' v l:=let ⟨P,S,h⟩:=h;⟨P,S,h.later k⟩
theorem IRow.bel{w0 w v l}(h:IRow w0 w v l):Below w0.heap.size w0 w:=let ⟨_,_,h⟩:=h;h.bel
theorem IRow.shape{w0 w v l}(h:IRow w0 w v l):∃a c,v=.slice a l.length c:=by
 obtain⟨P,S,h⟩:=h;rcases h.own with⟨rfl,e,_⟩|⟨g,cap,rfl,_⟩
 ·exact⟨none,0,by rw[e]⟩
 exact⟨_,_,rfl⟩
theorem IRow.nil{w0 w}(h:Below w0.heap.size w0 w):IRow w0 w (.slice none 0 0) [] :=
 ⟨λ_=>False,λ_=>False,.inl ⟨rfl,rfl,rfl⟩,λx a=>absurd a (List.not_mem_nil),λb q=>q.elim,λb q=>q.elim,h,.inl rfl⟩
theorem IRow.since{w0 w1 w v l}(h:IRow w1 w v l)(k:Below w0.heap.size w0 w1):IRow w0 w v l:=by
 obtain⟨P,S,h⟩:=h;have:=k.size;exact⟨P,S,h.own,h.sets,λb a=>⟨by have:=(h.p b a).1;omega,(h.p b a).2⟩,λb a=>⟨by have:=(h.s b a).1;omega,(h.s b a).2⟩,uf k h.bel,h.ne⟩
theorem ujr{w0 w v l P S}(h:IRowP w0 w v l P S):Src Tryz.prog 4 33 v l.length (uG l) w:=by
 rcases h.own with⟨rfl,e,f⟩|⟨g,cap,rfl,m,k,i,c,n⟩
 ·have:l = []:=List.eq_nil_of_length_eq_zero e;subst this;exact Src.ofNil w Tryz.underlying33 0
 refine Src.ofSlice (P:=Tryz.prog) w Tryz.underlying33 ⟨g,0,none⟩ l.length cap _ (by rw[uaG]) (λj u b=>?_) (uh5 l);have d:=(List.getElem?_eq_some_iff.1 b).1;have e':(⟨g,0,none⟩:Addr).add j=⟨g,j,none⟩:=by
  by_cases a:j=0
  ·subst a;simp[Addr.add]
  simp[Addr.add,a]
 rw[e',c j d];exact b
theorem uoP{w0 w1 w w' v y l L L2 P S m i}(h:IRowP w0 w1 v L P S)(a:IRowP w1 w y L2 m i)(x:OwnC (λb=>P b\/w.heap.size<=b) w' l 4 (L.length+L2.length) (uG L++uG L2))(d:Grew (λb=>P b) w w')(z:0<L.length+L2.length):IRow w0 w' l (L++L2):=by
 have E:=h.bel.size;have F:=a.bel.size;have G:=d.size;have o:Stay (λb=>S b\/i b) w w':=λb c=>d.block b (by
  rcases c with q|q
  ·have:=(h.s b q).2;omega
  ·exact(a.s b q).2) (λq=>by
  rcases c with r|r
  ·exact(h.p b q).2.2 r
  have f:=(h.p b q).2.1;have j:=(a.s b r).1;omega)
 refine⟨λb=>P b\/(w.heap.size<=b/\b<w'.heap.size),λb=>S b\/i b,?_,?_,?_,?_,?_,.inr (by rw[List.length_append];exact z)⟩
 ·rw[List.length_append,uc5];rcases x with q|⟨g,cap,e,A,f,j,n,k⟩
  ·exact .inl q
  refine .inr ⟨g,cap,e,?_,f,j,n,k⟩;rcases A with q|q
  ·exact .inl q
  obtain⟨u,B⟩:=Option.isSome_iff_exists.1 (k 0 (by omega)).1;exact .inr ⟨q,ud B⟩
 ·exact((((h.sets.wide (λb q=>Or.inl q)).later a.bel).app (a.sets.wide (λb q=>Or.inr q)))).on o
 ·rintro b (q|⟨D,C⟩)
  ·have f:=h.p b q;refine⟨f.1,by omega,λr=>?_⟩;rcases r with r|r
   ·exact f.2.2 r
   have:=(a.s b r).1;omega
  refine⟨by omega,C,λr=>?_⟩;rcases r with r|r
  ·have:=(h.s b r).2;omega
  have:=(a.s b r).2;omega
 ·rintro b (q|q)
  ·have:=h.s b q;exact⟨this.1,by omega⟩
  have:=a.s b q;exact⟨by omega,by omega⟩
 have c:=uf h.bel a.bel;exact⟨d.os.trans c.os,d.tape.trans c.tape,d.output.trans c.output,Nat.le_trans c.size d.size,λb t=>(d.block b (by omega) (λq=>by have:=(h.p b q).1;omega)).trans (c.block b t)⟩
theorem ubf{w x g j news t h e}ty(b:vG t e g j)(a:Src Tryz.prog g h x 0 news w) :
  (Builtin.append_ #[t,h] ty #[.slice none 0 0,x]).run Tryz.prog w=.ok (.slice none 0 0) w:=by
 obtain⟨z,k,q⟩:=b.info;obtain⟨i,l,f⟩:=Option.map_eq_some_iff.1 k;simp only[Prod.mk.injEq]at f;obtain⟨o,m,p⟩:=f;have c:=a.cells;rw[<-m]at c;rcases a.kind with⟨n,d⟩|d<;>simp[Builtin.append_,run_underlying b.und,run_underlying d,sizeOf,typeInfo,l,a.len,c]
theorem ujs{w0 w1 w v y L L2}ty(h:IRow w0 w1 v L)(a:IRow w1 w y L2)(l:L.length+L2.length<=16777216) :
  ∃c w',(Builtin.append_ #[33,33] ty #[v,y]).run Tryz.prog w=.ok c w'/\IRow w0 w' c (L++L2):=by
 obtain⟨P,S,h⟩:=h;obtain⟨r,s,a⟩:=a;by_cases u:L.length+L2.length=0
 ·have d:L = []:=List.eq_nil_of_length_eq_zero (by omega);have f:L2 = []:=List.eq_nil_of_length_eq_zero (by omega);subst d f;have j:=h.ne.elim id (λq=>absurd q (by simp));subst j;exact⟨_,_,ubf ty uh6 (ujr a),IRow.nil (uf h.bel a.bel)⟩
 obtain⟨c,w',m,n,o,x⟩:=ym ty uh6 (uab h.own (λb k=>(h.p b k).2.1) a.bel) (ujr a) l (λe=>by
  by_cases q:0<L2.length
  ·exact q
  rcases h.own with⟨_,t,_⟩|⟨g,cap,i,_⟩
  ·omega
  rw[i]at e;cases e)
 exact⟨c,w',m,uoP h a n o (by omega)⟩
theorem uaI{ops:Array Oper}{rest:List Oper}{o:Oper}{a:Act}{f:Exit->Act->World->Prop}{w:World}(l:o.guard=none)(s x:Operand)(n:o.op=.call { callee:=.builtin .append,args:=#[s,x],argTypes:=#[33,33] })
  {w0 w1:World} {v y:Value} {L L2:List IC} (q:a.eval s=v) (r:a.eval x=y) (h:IRow w0 w1 v L) (i:IRow w1 w y L2) (m:L.length+L2.length<=16777216)
  (k:∀w' d e b c,Hid (d=L++L2)->Hid (e=d.length)->Hid (IRow w0 w' (.slice b e c) d)->wpList Tryz.prog ops f rest (a.put o.dst (.slice b e c)) w'):wpList Tryz.prog ops f (o::rest) a w:=by
 refine wpList_plain l λK j=>?_
 obtain⟨t,w',p,g⟩:=ujs o.type h i m;obtain⟨b,c,rfl⟩:=g.shape;unfold Oper.wp execOp;simp only[n,resolve,invoke,builtin,Sem.run_bind,Sem.run_pure,Result.andThen_ok,List.map_toArray,List.map_cons,List.map_nil,q,r,p];exact j _ _ (k w' (L++L2) _ b c rfl rfl g)
theorem utf{ops:Array Oper}{o:Oper}{a:Act}{w:World}{K:Act->World->Prop}{g:Exit->Act->World->Prop}{E:Prop}(j:o.guard=none)(s x:Operand)(m:o.op=.call { callee:=.builtin .append,args:=#[s,x],argTypes:=#[33,33] })
  {w0 w1:World} {v y:Value} {L L2:List IC} (p:a.eval s=v) (r:a.eval x=y) (h:IRow w0 w1 v L) (i:IRow w1 w y L2) (l:L.length+L2.length<=16777216)
  (k:∀w' d e b c,Hid (d=L++L2)->Hid (e=d.length)->Hid (IRow w0 w' (.slice b e c) d)->K (a.put o.dst (.slice b e c)) w'):if Region.wanted o (yielded ops a.tmps)=true then Oper.wp Tryz.prog o a w K g else E:=by
 have q:Region.wanted o (yielded ops a.tmps)=true:=by simp[Region.wanted,j]
 rw[if_pos q];obtain⟨t,w',n,f⟩:=ujs o.type h i l;obtain⟨b,c,rfl⟩:=f.shape;unfold Oper.wp execOp;simp only[m,resolve,invoke,builtin,Sem.run_bind,Sem.run_pure,Result.andThen_ok,List.map_toArray,List.map_cons,List.map_nil,p,r,n];exact k w' (L++L2) _ b c rfl rfl f
theorem ujt{w0 w x S}(h:Below w0.heap.size w0 w)(m:Ints S .i64 w x.a x.d.sl x.d.set)(g:∀b,S b->w0.heap.size<=b/\b<w.heap.size) :
  IRow w0 (w.alloc (.cells #[.int .i64 x.d.kind,.int .i64 x.d.arg,.int .i64 x.d.to,.slice x.a x.d.sl x.c] 86)) (.slice (some ⟨w.heap.size,0,none⟩) 1 1) [x]:=by
 have f:(w.alloc (.cells #[.int .i64 x.d.kind,.int .i64 x.d.arg,.int .i64 x.d.to,.slice x.a x.d.sl x.c] 86)).heap.size=w.heap.size+1:=by simp
 have hb':=h.size;have i:∀j,j<4->(w.alloc (.cells #[.int .i64 x.d.kind,.int .i64 x.d.arg,.int .i64 x.d.to,.slice x.a x.d.sl x.c] 86)).cell? ⟨w.heap.size,j,none⟩=(icv x)[j]?:=λj e=>by
  match j,e with
  |0,_=>exact cN w.heap.size rfl rfl
  |1,_=>exact cN w.heap.size rfl rfl
  |2,_=>exact cN w.heap.size rfl rfl
  |3,_=>exact cN w.heap.size rfl rfl
  |j+4,e=>omega
 refine⟨λb=>b=w.heap.size,S,?_,?_,?_,?_,?_,.inr (by simp)⟩
 ·refine .inr ⟨w.heap.size,1,rfl,rfl,rfl,Nat.le_refl _,λj e=>?_,λj e=>⟨?_,?_⟩⟩
  ·have hj':j<4:=(by simpa[uG,icv] using e);rw[i j hj',uG,uG,List.append_nil]
  ·rw[i j (by omega)];match j,e with
   |0,_=>rfl
   |1,_=>rfl
   |2,_=>rfl
   |3,_=>rfl
   |j+4,e=>omega
  exact qf w _ 86 w.heap.size j (Nat.le_refl _) (by rw[f];omega)
 ·intro y k;simp at k;subst k;exact m.later (ui w _)
 ·rintro b rfl;exact⟨hb',by rw[f];omega,λq=>by have:=(g _ q).2;omega⟩
 ·intro b l;have:=g b l;exact⟨this.1,by rw[f];omega⟩
 exact uf h (ui w _)
theorem yL{w0 w}k a t(c:Below w0.heap.size w0 w):IRow w0 (w.alloc (.cells #[.int .i64 k,.int .i64 a,.int .i64 t,.slice none 0 0] 86)) (.slice (some ⟨w.heap.size,0,none⟩) 1 1) [ic k a t] :=
 ujt (x:=ic k a t) (S:=λ_=>False) c (.inl rfl) (λb q=>q.elim)
def uS(k:IntKind)(S:Nat->Int)(n:Nat):List Value:=(List.range n).map λi=>.int k (S i)
theorem xR k S n:(uS k S n).length=n:=by simp[uS]
theorem ueA{k S n i}(h:i<n):(uS k S n)[i]?=some (.int k (S i)):=by simp[uS,h]
theorem ukz k S n:∀u∈uS k S n,u.oneCell'=true:=by
 intro u a;obtain⟨i,_,rfl⟩:=List.mem_map.1 a;rfl
theorem Ints.src{Q k w x n c S g e}(i:Tryz.prog.underlying g=some (.slice e))(h:Ints Q k w (some x) n S):Src Tryz.prog 1 g (.slice (some x) n c) n (uS k S n) w:=by
 refine Src.ofSlice (P:=Tryz.prog) w i x n c (uS k S n) (by rw[xR,Nat.mul_one]) (λj u d=>?_) (ukz k S n);have f:j<n:=by have:=(List.getElem?_eq_some_iff.1 d).1;rwa [xR]at this
 rw[ueA f]at d;cases d;rcases h with a|⟨b,off,e,_,h⟩
 ·omega
 cases e;have e':(⟨b,off,none⟩:Addr).add j=⟨b,off+j,none⟩:=by
  by_cases a:j=0
  ·subst a;simp[Addr.add]
  simp[Addr.add,a]
 rw[e'];exact h j f
theorem OwnC.ints{Q k w v n S}(h:OwnC Q w v 1 n (uS k S n)):∃a c,v=.slice a n c/\Ints Q k w a n S:=by
 rcases h with⟨rfl,rfl,_⟩|⟨g,cap,rfl,e,f,_,d,_⟩
 ·exact⟨none,0,rfl,.inl rfl⟩
 refine⟨_,_,rfl,.inr ⟨g,0,rfl,e,λi b=>?_⟩⟩;rw[Nat.zero_add,d i (by rw[xR];exact b),ueA b]
theorem Grew.below{Q w0 w w'}(h:Grew Q w w')(a:Below w0.heap.size w0 w)(d:∀b,b<w0.heap.size->¬Q b):Below w0.heap.size w0 w' :=
 ⟨h.os.trans a.os,h.tape.trans a.tape,h.output.trans a.output,Nat.le_trans a.size h.size,λb c=>(h.block b (Nat.lt_of_lt_of_le c a.size) (d b c)).trans (a.block b c)⟩
theorem ukA w g c:OwnC (λb=>b=g) w (.slice (some ⟨g,0,none⟩) 0 0) c 0 [] :=
 .inr ⟨g,0,rfl,rfl,by simp,Nat.le_refl _,λj a=>absurd a (Nat.not_lt_zero _),λj a=>by simp at a⟩
theorem uoI{x n c m}(h:Value.slice (some x) n c=.slice none 0 0):0<m:=by injection h with h;cases h
theorem ukB{k t w W j n S}(h:OwnC (λb=>b=w.heap.size\/(w.alloc (.cells #[] t)).heap.size<=b) W j 1 (0+n) ([]++uS k S n))(f:Grew (λb=>b=w.heap.size) (w.alloc (.cells #[] t)) W)(o:W.heap.size<=(w.alloc (.cells #[] t)).heap.size+1) :
  CpS (λw' a=>Ints (New w w') k w' a n S) n w (.returned j) W:=by
 rw[Nat.zero_add,List.nil_append]at h;have i:=f.below (ui w _) (λb i e=>by omega);simp only[World.size_alloc]at h o;have p:=f.size;simp only[World.size_alloc]at p;refine⟨?_,i,(qf w _ t).grew f⟩;obtain⟨a,c,e,d⟩:=h.ints;by_cases g:n=0
 ·exact⟨a,c,by rw[e],.inl g⟩
 rcases d with m|⟨b,off,l,q,d⟩
 ·exact absurd m g
 exact⟨a,c,by rw[e],.inr ⟨b,off,l,⟨by omega,ud (d 0 (by omega))⟩,d⟩⟩
theorem uc3 Q a n c S w(f:Ints Q .i64 w a n S)(q:n<=1048576) :
  Calls Tryz.prog 115 #[.slice a n c] w (CpS (λw' a=>Ints (New w w') .i64 w' a n S) n w):=by
 have r:∀(w:World) (a:Option Addr) (n c d b:Nat),(binOp .eql 36 (.slice a n c) (.slice none d b)).run Tryz.prog w=.ok (.bool a.isNone) w:=λw a n c d b=>Lib.run_eql_slice_nil w _ _ a n c d b Tryz.underlying36
 cases a with
 |none =>
  have p:n=0:=by
   rcases f with h|⟨_,_,e,_⟩
   ·exact h
   cases e
  subst p;go_enter Tryz.func115,Tryz.ntmps115;go_wp2;go_ret;exact⟨⟨none,0,rfl,.inl rfl⟩,Below.refl _ _,Soft.refl _⟩
 |some x =>
  have m:=ua f;go_enter Tryz.func115,Tryz.ntmps115;go_wp2_with (at_builtin;refine ukw rfl _ _ 36 36 rfl rfl rfl elem36 (ukA _ w.heap.size 1) (Ints.src Tryz.underlying36 (m.later (ui w _))) (by omega) uoI ?_;intro s W i g j;have l:Hid _:=i;have k:Hid _:=g;have o:Hid _:=j;clear i g j);go_ret;exact ukB l k o
theorem uqW{ops:Array Oper}{rest:List Oper}{o:Oper}{a:Act}{r:Exit->Act->World->Prop}{w:World}(G:o.guard=none)(s x:Operand)(L:o.op=.call { callee:=.builtin .append,args:=#[s,x],argTypes:=#[36,36] })
  {Q:Nat->Prop} {j:Option Addr} {n c:Nat} {S:Nat->Int} (O:a.eval s=.slice none 0 0) (P:a.eval x=.slice j n c) (t:Ints Q .i64 w j n S) (W:n<=1048576)
  (k:∀w' d f,Hid (Ints (New w w') .i64 w' d n S)->Hid (Below w.heap.size w w')->wpList Tryz.prog ops r rest (a.put o.dst (.slice d n f)) w'):wpList Tryz.prog ops r (o::rest) a w:=by
 refine wpList_plain G λK F=>?_
 have l:Src Tryz.prog 1 36 (.slice j n c) n (uS .i64 S n) w:=by
  cases j with
  |some y=>exact t.src Tryz.underlying36
  |none =>
   have m:n=0:=by
    rcases t with h|⟨_,_,e,_⟩
    ·exact h
    cases e
   subst m;exact Src.ofNil w Tryz.underlying36 c
 have U:∃d f w',(Builtin.append_ #[36,36] o.type #[.slice none 0 0,.slice j n c]).run Tryz.prog w=.ok (.slice d n f) w'/\Ints (New w w') .i64 w' d n S/\Below w.heap.size w w':=by
  by_cases m:n=0
  ·subst m;obtain⟨z,H,Z⟩:=elem36.info;obtain⟨i,I,A⟩:=Option.map_eq_some_iff.1 H;simp only[Prod.mk.injEq]at A;obtain⟨X,R,Y⟩:=A;have g:=l.cells;rw[<-R]at g;refine⟨none,0,w,?_,.inl rfl,Below.refl _ _⟩;rcases l.kind with⟨V,J⟩|J<;>simp[Builtin.append_,run_underlying elem36.und,sizeOf,typeInfo,I,l.len,g]
  obtain⟨v',w',p,B,T,k3⟩:=ym (Q:=λ_=>False) (v:=.slice none 0 0) (cs:=[]) (n:=0) o.type elem36 (.inl ⟨rfl,rfl,rfl⟩) l (by omega) (λ_=>by omega);rw[Nat.zero_add,List.nil_append]at B;obtain⟨d,f,rfl,E⟩:=B.ints;have u:=T.below (Below.refl _ w) (λb u q=>q);refine⟨d,f,w',p,?_,u⟩;rcases E with q|⟨b,off,e,N,g⟩
  ·exact .inl q
  exact .inr ⟨b,off,e,⟨N.elim (λq=>q.elim) id,ud (g 0 (by omega))⟩,g⟩
 obtain⟨d,f,w',p,C,D⟩:=U;unfold Oper.wp execOp;simp only[L,resolve,invoke,builtin,Sem.run_bind,Sem.run_pure,Result.andThen_ok,List.map_toArray,List.map_cons,List.map_nil,O,P,p];exact F _ _ (k w' d f C D)
end Go.Proofs.YtimfigongapdnaaGreat
