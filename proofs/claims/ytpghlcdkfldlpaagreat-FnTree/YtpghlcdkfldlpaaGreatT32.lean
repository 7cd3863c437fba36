import Derived.Test.YtpghlcdkfldlpaaGreatT31
set_option linter.unusedVariables false
set_option linter.unusedSimpArgs false
set_option maxHeartbeats 40000000
set_option maxRecDepth 100000
namespace Go.Proofs.YtpghlcdkfldlpaaGreat
open Go.RowKit
open M (OpD ue Gr)
structure NC where
 z:List Int
 a:Option Addr
 c:Nat
def ncv(x:NC):List Value:=[.slice x.a x.z.length x.c]
theorem ujz x:(ncv x).length=1:=rfl
theorem uqr:(Tryz.prog.info? 22).map (λi=>(i.zero,i.size,i.bytes))=some (some (.slice none 0 0),1,24):=by kernel_rfl
theorem umi:vV 68 22 1 24:=⟨Tryz.underlying68,⟨_,uqr,rfl⟩,by omega⟩
structure NmP(w wr:World)(v:Value)(L:List NC)(P:Nat->Prop):Prop where
 own:OwnC P wr v 1 L.length (L.flatMap ncv)
 new:∀b,P b->New w wr b
 nm:∀x∈L,Ints (λb=>b<wr.heap.size/\¬P b) .u8 wr x.a x.z.length (lf x.z)
 keep:Keep (λ_=>False) w wr
def NmR(w wr:World)(v:Value)(L:List NC):Prop:=∃P,NmP w wr v L P
theorem NmR.nil{w wr}(h:Keep (λ_=>False) w wr):NmR w wr (.slice none 0 0) [] :=
 ⟨λ_=>False,.inl ⟨rfl,rfl,rfl⟩,λ_ q=>q.elim,(λx a=>by cases a),h⟩
theorem NmR.shape{w wr v l}(h:NmR w wr v l):∃a c,v=.slice a l.length c:=by
 obtain⟨P,h⟩:=h;exact ul h.own
theorem NmR.keep{w wr v l}(h:NmR w wr v l):Keep (λ_=>False) w wr:=by
 obtain⟨P,h⟩:=h;exact h.keep
theorem ugR{w wr W W1 d v m l x P}(h:NmP w wr v l P)(i:Keep (λ_=>False) wr W)(g:Keep (λ_=>False) W W1)(t:Ints (λb=>b<W.heap.size/\¬P b) .u8 W x.a x.z.length (lf x.z))(A:OwnC (λb=>P b\/W1.heap.size<=b) d m 1 (l.length+1) (l.flatMap ncv++ncv x))(f:Grew P W1 d):NmR w d m (l++[x]):=by
 have E:=h.keep.size;have F:=i.size;have G:=g.size;have H:=f.size;refine⟨λb=>(P b\/W1.heap.size<=b)/\b<d.heap.size,?_,?_,?_,yq ((h.keep.trans i).trans g) f (λb q=>(h.new b q).1)⟩
 ·have e:(l++[x]).flatMap ncv=l.flatMap ncv++ncv x:=by simp
  rw[e,List.length_append,List.length_singleton];rcases A with⟨_,q,_⟩|⟨b,cap,e,B,o,p,s,j⟩
  ·omega
  refine .inr ⟨b,cap,e,⟨B,?_⟩,o,p,s,j⟩;obtain⟨u,C⟩:=Option.isSome_iff_exists.1 (j 0 (by omega)).1;exact ub C
 ·rintro b ⟨q|q,k⟩
  ·exact⟨(h.new b q).1,k⟩
  exact⟨by omega,k⟩
 intro y D;rcases List.mem_append.1 D with q|q
 ·have n:=h.nm y q;have st:Stay (λb=>b<wr.heap.size/\¬P b) wr d:=λb c=>(f.block b (by have:=c.1;omega) c.2).trans ((g.block b (by have:=c.1;omega) (λe=>e)).trans (i.block b c.1 (λe=>e)))
  exact(n.on st).wide (λb c=>⟨by have:=c.1;omega,λr=>r.1.elim c.2 (λr=>by have:=c.1;omega)⟩)
 obtain rfl:=List.mem_singleton.1 q;have st:Stay (λb=>b<W.heap.size/\¬P b) W d:=λb c=>(f.block b (by have:=c.1;omega) c.2).trans (g.block b c.1 (λe=>e))
 exact(t.on st).wide (λb c=>⟨by have:=c.1;omega,λr=>r.1.elim c.2 (λr=>by have:=c.1;omega)⟩)
theorem NmP.cells{w wr a n c L P}(h:NmP w wr (.slice a n c) L P){i x}(d:L[i]?=some x):∃b,a=some ⟨b,0,none⟩/\P b/\wr.cell? ⟨b,i,none⟩=some (.slice x.a x.z.length x.c):=by
 have p:=(List.getElem?_eq_some_iff.1 d).1;rcases h.own with⟨_,q,_⟩|⟨g,cap,e,k,l,m,f,o⟩
 ·omega
 injection e with e1 e2 e3;subst e1;have j:=yx ncv 1 ujz L;refine⟨g,rfl,k,?_⟩;have:=vF ncv 1 ujz L i 0 x d (by omega);rw[Nat.mul_one,Nat.add_zero]at this;rw[f i (by rw[j];omega),this];rfl
theorem NmR.read{w wr a n c L}(h:NmR w wr (.slice a n c) L):NmsA (λb=>b<wr.heap.size) wr a (L.map (·.z)):=by
 obtain⟨P,h⟩:=h;cases L with
 |nil=>exact .inl rfl
 |cons y r =>
  obtain⟨g,rfl,_,_⟩:=h.cells (i:=0) (x:=y) rfl;refine .inr ⟨g,0,rfl,λi z f=>?_⟩;rw[List.getElem?_map]at f;obtain⟨x,d,rfl⟩:=Option.map_eq_some_iff.1 f;obtain⟨j,e,m,l⟩:=h.cells d;obtain rfl:g=j:=by injection e with e;injection e
  exact⟨x.a,x.c,by rw[Nat.zero_add];exact l,(h.nm x (List.mem_of_getElem? d)).wide (λb k=>k.1)⟩
theorem umj(W:World)(x:NC){ty}:Src Tryz.prog 1 68 (.slice (some ⟨W.heap.size,0,none⟩) 1 1) 1 (ncv x) (W.alloc (.cells #[.slice x.a x.z.length x.c] ty)) :=
 yH Tryz.underlying68 rfl (λj u b=>by
  have d:=World.alloc_heap_new W (.cells #[.slice x.a x.z.length x.c] ty);simp only[World.cell?,d];rw[<-b];simp[ncv]) (λu b=>by
  simp only[ncv,List.mem_cons,List.not_mem_nil,or_false]at b;subst b;rfl)
theorem Ints.of{Q k w a n S}(h:Ints Q k w a n S):Ints (λb=>b<w.heap.size) k w a n S:=by
 rcases h with h|⟨b,off,e,d,h⟩
 ·exact .inl h
 by_cases c:n=0
 ·exact .inl c
 exact .inr ⟨b,off,e,ub (h 0 (by omega)),h⟩
theorem uot{Q w wr W1 c v d l x P}(h:NmP w wr v l P)(k:Keep (λ_=>False) wr W1)(g:Ints Q .u8 w x.a x.z.length (lf x.z))(i:OwnC (λb=>P b\/W1.heap.size<=b) c d 1 (l.length+1) (l.flatMap ncv++ncv x))(f:Grew P W1 c):NmR w c d (l++[x]) :=
 ugR h (Keep.refl _ _) k ((g.of.later h.keep.bel).wide (λb e=>⟨Nat.lt_of_lt_of_le e h.keep.size,λq=>by have:=(h.new b q).1;omega⟩)) i f
def urI:Value->Nat
 |.slice _ n _=>n
 |_=>0
theorem nmA{ops:Array Oper}{rest:List Oper}{o:Oper}{a:Act}{f:Exit->Act->World->Prop}{Q:Nat->Prop}{w wr W:World}(A:o.guard=none)(s x:Operand)(C:o.op=.call { callee:=.builtin .append,args:=#[s,x],argTypes:=#[68,68] })
  {v:Value} {L:List NC} {y:NC} {ty:TypeId} (D:a.eval s=v) (E:a.eval x=.slice (some ⟨W.heap.size,0,none⟩) 1 1) (t:NmR w wr v L) (k:Keep (λ_=>False) wr W) (F:Ints Q .u8 w y.a y.z.length (lf y.z)) (G:L.length<=1048576)
  (h:∀g i d,Hid (NmR w d (.slice g (L.length+1) i) (L++[y]))->wpList Tryz.prog ops f rest (a.put o.dst (.slice g (L.length+1) i)) d):wpList Tryz.prog ops f (o::rest) a (W.alloc (.cells #[.slice y.a y.z.length y.c] ty)):=by
 obtain⟨P,e⟩:=t;have l:Keep (λ_=>False) wr (W.alloc (.cells #[.slice y.a y.z.length y.c] ty)):=k.trans (Keep.alloc _ _ _);refine uaB A s x 68 68 C D E umi (Q:=P) (n:=L.length) (cs:=L.flatMap ncv) (m:=1) (news:=ncv y) (e.own.on (λb u=>l.block b (e.new b u).2 (λq=>q))) (umj W y) (by omega) ?_;intro I d j B H;obtain⟨p,r,rfl⟩:=ul j;exact h p r d (uot e l F j B)
theorem nmB{ops:Array Oper}{rest:List Oper}{o:Oper}{a:Act}{g:Exit->Act->World->Prop}{w wr W:World}(u:o.guard=none)(s x:Operand)(B:o.op=.call { callee:=.builtin .append,args:=#[s,x],argTypes:=#[68,68] })
  {v:Value} {L:List NC} {y:NC} {ty:TypeId} (C:a.eval s=v) (D:a.eval x=.slice (some ⟨W.heap.size,0,none⟩) 1 1) (t:NmR w wr v L) (k:Keep (λ_=>False) wr W) (E:Ints (New wr W) .u8 W y.a y.z.length (lf y.z)) (G:L.length<=1048576)
  (h:∀i j d,Hid (NmR w d (.slice i (L.length+1) j) (L++[y]))->wpList Tryz.prog ops g rest (a.put o.dst (.slice i (L.length+1) j)) d):wpList Tryz.prog ops g (o::rest) a (W.alloc (.cells #[.slice y.a y.z.length y.c] ty)):=by
 obtain⟨P,e⟩:=t;have F:Keep (λ_=>False) wr (W.alloc (.cells #[.slice y.a y.z.length y.c] ty)):=k.trans (Keep.alloc _ _ _);refine uaB u s x 68 68 B C D umi (Q:=P) (n:=L.length) (cs:=L.flatMap ncv) (m:=1) (news:=ncv y) (e.own.on (λb f=>F.block b (e.new b f).2 (λq=>q))) (umj W y) (by omega) ?_;intro I d l A H;obtain⟨p,r,rfl⟩:=ul l;exact h p r d (ugR e k (Keep.alloc _ _ _) (E.wide (λb f=>⟨f.2,λq=>by have:=(e.new b q).2;have:=f.1;omega⟩)) l A)
theorem ur4{ops:Array Oper}{rest:List Oper}{o:Oper}{a:Act}{f:Exit->Act->World->Prop}{Q:Nat->Prop}{W:World}(A:o.guard=none)(s x:Operand)(C:o.op=.call { callee:=.builtin .append,args:=#[s,x],argTypes:=#[22,22] })
  {ya:Option Addr} {yc:Nat} {z:List Int} {ty:TypeId} (E:a.eval s=.slice (some ⟨W.heap.size,0,none⟩) 0 0) (F:a.eval x=.slice ya z.length yc) (y:Ints Q .u8 W ya z.length (lf z)) (H:z.length<=1048576)
  (h:∀i v c,Hid (Ints (New W c) .u8 c i z.length (lf z))->Hid (Keep (λ_=>False) W c)->wpList Tryz.prog ops f rest (a.put o.dst (.slice i z.length v)) c):wpList Tryz.prog ops f (o::rest) a (W.alloc (.cells #[] ty)):=by
 refine uaB A s x 22 22 C E F qI (Q:=λb=>b=W.heap.size) (n:=0) (cs:=[]) (m:=z.length) (news:=uV .u8 (lf z) z.length) (.inr ⟨W.heap.size,0,rfl,rfl,rfl,Nat.le_refl _,(λj r=>by simp at r),(λj r=>by omega)⟩) (Ints.srcD Tryz.underlying22 (y.later (uf W _))) (by omega) ?_;intro J c d l I;rw[Nat.zero_add,List.nil_append]at d;obtain⟨u,w,rfl⟩:=ul d;have L:W.heap.size+1<=c.heap.size:=by have:=l.size;simpa using this
 have B:=yq (Keep.alloc _ _ _) l (λb q=>by rw[q];exact Nat.le_refl _);refine h u w c ?_ B;by_cases t:z.length=0
 ·exact .inl t
 have p:=xy d;have G:=p.of;rcases p with q|⟨g,off,e,D,k⟩
 ·exact absurd q t
 refine .inr ⟨g,off,e,⟨?_,ub (k 0 (by omega))⟩,k⟩;rcases D with q|q
 ·omega
 have q:W.heap.size+1<=g:=by simpa using q
 omega
theorem ueV{Q f:Nat->Prop}{V}{x y:NC}{r:Bool}(k:Ints Q .u8 V x.a x.z.length (lf x.z))(l:Ints f .u8 V y.a y.z.length (lf y.z))(i:BytL x.z)(g:BytL y.z)(m:r=true↔ltB x.z y.z)(d:Nat) :
  Calls Tryz.prog 61 #[.slice x.a x.z.length x.c,.slice y.a y.z.length y.c] (V.drewN d) λe w'=>e=.returned (.bool r)/\w'=V.drewN d :=
 (ubb (λ_=>True) x.a y.a x.z.length x.c y.z.length y.c (lf x.z) (lf y.z) _ ((k.later (below_drewN (Below.refl _ V) d)).wide (λ_ _=>trivial)) ((l.later (below_drewN (Below.refl _ V) d)).wide (λ_ _=>trivial)) i.byt g.byt).mono (λe W h=>by
  obtain⟨⟨b,rfl,j⟩,rfl⟩:=h;rw[ufR]at j;obtain rfl:b=r:=by
   cases r<;>cases b<;>simp_all
  exact⟨rfl,rfl⟩)
def ur5(w:World)(a:List Rl)(v u:Value)(wr:World):Prop :=
 ∃(done rest:List Rl) (L:List NC),a=done++rest/\u=.int .i64 (done.length:Nat)/\L.map (·.z)=uy done/\NmR w wr v L
def ur6(w:World)(l:List Tok)(R:List (List Int))(v u:Value)(wr:World):Prop :=
 ∃(j:Nat) (L:List NC),1<=j/\j<=l.length+1/\u=.int .i64 (j:Nat)/\L.map (·.z)++yz (l.drop (j-1))=R/\NmR w wr v L
theorem qR:∀a:List Rl,(uy a).length<=(a.flatMap Rl.tk).length
 |[]=>Nat.le_refl _
 |q::a=>by
  have b:=qR a;have c:=udy q.body.tk;have d:=q.len;have e:(xA q).length<=q.tk.length:=by
   unfold xA;rw[List.length_append];split<;>simp<;>omega
  simp only[uy,List.flatMap_cons,List.length_append]at b ⊢;omega
theorem Asc.last:∀{l:List (List Int)} {x:List Int},Asc (l++[x])->∀y∈l,ltB y x
 |[],x,_,y,hy=>by cases hy
 |u::l,x,h,y,hy=>by
  rcases List.mem_cons.1 hy with rfl|q
  ·exact h.1 x (by simp)
  exact Asc.last h.2 y q
def cand(a:List (List Int))(z:List Int):Prop:=∀y,a.getLast? = some y->ltB y z
theorem umk{a z}(h:Asc a)(d:cand a z):∀y∈a,ltB y z:=by
 intro y c;rcases List.eq_nil_or_concat a with e|⟨l,x,e⟩
 ·subst e;cases c
 subst e;rw[List.concat_eq_append]at *;have b:=d x (by simp);rcases List.mem_append.1 c with q|q
 ·exact udw (h.last y q) b
 rw[List.mem_singleton.1 q];exact b
structure OutOK(all out:List (List Int)):Prop where
 asc:Asc out
 sub:∀z∈out,z∈all
 far:∀z∈all,z ∉ out->∀y∈out,ltB y z
theorem OutOK.cand{b a}(h:OutOK b a){z}(e:z∈b)(c:z ∉ a):cand a z:=λy d=>h.far z e c y (List.mem_of_getLast? d)
def BestOK(a b:List (List Int))(i:Nat):Option Nat->Prop
 |none=>∀j z,j<i->a[j]?=some z->¬cand b z
 |some k=>k<i/\∃m,a[k]?=some m/\cand b m/\∀j z,j<i->a[j]?=some z->cand b z->¬ltB z m
theorem BestOK.skip{c d i}{k:Option Nat}{z}(h:BestOK c d i k)(l:c[i]?=some z)(f:¬cand d z):BestOK c d (i+1) k:=by
 have n:∀j,j<i+1->j<i\/j=i:=λj b=>by omega
 cases k with
 |none =>
  intro j y b a;rcases n j b with q|rfl
  ·exact h j y q a
  rw[l]at a;injection a with e;subst e;exact f
 |some k =>
  obtain⟨s,m,o,p,r⟩:=h;refine⟨by omega,m,o,p,λj y b a g=>?_⟩;rcases n j b with q|rfl
  ·exact r j y q a g
  rw[l]at a;injection a with e;subst e;exact absurd g f
theorem BestOK.first{a c i z}(h:BestOK a c i none)(d:a[i]?=some z)(f:cand c z):BestOK a c (i+1) (some i) :=
 ⟨by omega,z,d,f,λj y k b g=>by
  by_cases e:j=i
  ·subst e;rw[d]at b;injection b with e;subst e;exact xN _
  exact absurd g (h j y (by omega) b)⟩
theorem BestOK.less{a c i k z m}(h:BestOK a c i (some k))(q:a[k]?=some m)(g:a[i]?=some z)(n:cand c z)(p:ltB z m):BestOK a c (i+1) (some i):=by
 obtain⟨r,u,d,s,l⟩:=h;rw[q]at d;injection d with e;subst e;refine⟨by omega,z,g,n,λj y t b o f=>?_⟩;by_cases e:j=i
 ·subst e;rw[g]at b;injection b with e;subst e;exact xN _ f
 exact l j y (by omega) b o (udw f p)
theorem BestOK.more{a f i k z m}(h:BestOK a f i (some k))(d:a[k]?=some m)(p:a[i]?=some z)(o:¬ltB z m):BestOK a f (i+1) (some k):=by
 obtain⟨q,s,c,g,l⟩:=h;rw[d]at c;injection c with e;subst e;refine⟨by omega,m,d,g,λj y r b n=>?_⟩;by_cases e:j=i
 ·subst e;rw[p]at b;injection b with e;subst e;exact o
 exact l j y (by omega) b n
theorem OutOK.done{a b}(h:OutOK a b)(e:BestOK a b a.length none):∀z,z∈b↔z∈a:=λz=>by
 refine⟨h.sub z,λd=>Classical.byContradiction λf=>?_⟩;obtain⟨j,c⟩:=List.getElem?_of_mem d;exact e j z (List.getElem?_eq_some_iff.1 c).1 c (h.cand d f)
theorem OutOK.snoc{a d k m}(h:OutOK a d)(o:BestOK a d a.length (some k))(i:a[k]?=some m):OutOK a (d++[m]):=by
 obtain⟨t,u,f,l,n⟩:=o;rw[i]at f;injection f with e;subst e;have p:=umk h.asc l;refine⟨h.asc.snoc p,λz b=>?_,λz b c y s=>?_⟩
 ·rcases List.mem_append.1 b with q|q
  ·exact h.sub z q
  rw[List.mem_singleton.1 q];exact List.mem_of_getElem? i
 simp only[List.mem_append,List.mem_singleton,not_or]at c;rcases List.mem_append.1 s with q|q
 ·exact h.far z b c.1 y q
 rw[List.mem_singleton.1 q];obtain⟨j,g⟩:=List.getElem?_of_mem b;rcases ufQ m z with r|r|r
 ·exact r
 ·exact absurd r.symm c.2
 exact absurd r (n j z (List.getElem?_eq_some_iff.1 g).1 g (h.cand b c.1))
def uaH:Option Nat->Int
 |none=>-1
 |some k=>k
def ur7(w1:World)(a:List (List Int))(v:Value)(wr:World):Prop:=∃L:List NC,OutOK a (L.map (·.z))/\NmR w1 wr v L
def ujA(wr:World)(a b:List (List Int))(c d:Value)(e:World):Prop:=∃(i m:Nat) (k:Option Nat),i<=a.length/\d=.int .i64 (i:Nat)/\c=.int .i64 (uaH k)/\e=wr.drewN m/\BestOK a b i k
theorem uml z:cand [] z:=λy a=>by simp at a
theorem ukC l x z:cand (l++[x]) z↔ltB x z:=by
 unfold cand;simp
def uqs(f:List (List Int))(w:World)(e:Ending)(w':World):Prop :=
 ∃a c d,e=.returned (.slice a d.length c)/\Asc d/\(∀z,z∈d↔z∈f)/\NmsA (λb=>b<w'.heap.size) w' a d/\Keep (λ_=>False) w w'
theorem ufK Q g a c w(hT:RlsA Q w a g)(hl:(g.flatMap Rl.tk).length<=1000000)(hb:∀z∈uy g,BytL z)(be:∀z∈uy g,z.length<=1000000) :
  Calls Tryz.prog 27 #[.slice a g.length c] w (uqs (uy g) w):=by
 have ap:=qR g;have ci:g.length<=(g.flatMap Rl.tk).length:=by
  clear hT hb hl ap be;induction g with
  |nil=>simp
  |cons q g ih=>have:=q.len;simp only[List.flatMap_cons,List.length_append,List.length_cons];omega
 have cr:g.length<=1000000:=by omega
 have cn:(uy g).length<=1000000:=by omega
 have HB:Hid (∀z∈uy g,BytL z):=hb;have HT:Hid (RlsA Q w a g):=hT;have b9:Hid ((g.flatMap Rl.tk).length<=1000000):=hl;have bk:Hid (∀z∈uy g,z.length<=1000000):=be;clear hT hb hl ap ci be;go_enter Tryz.func27,Tryz.ntmps27;go_wp2;go_loopw [3,4] (ur5 w g) (λ_ u _=>g.length-(intOf u).toNat)
 case atStart=>exact⟨[],g,[],rfl,rfl,rfl,NmR.nil (Keep.refl _ _)⟩
 case round =>
  obtain⟨done,rest,L,G,rfl,hL,hR⟩:=hrel;obtain⟨va,vc,rfl⟩:=hR.shape;cases rest with
  |nil =>
   have a7:¬((done.length:Nat):Int)<g.length:=(by rw[G];simp);have I:Hid (L.map (·.z)=uy g):=(by rw[G,List.append_nil];exact hL);have O:Hid (NmR w wr (.slice va L.length vc) L):=hR;have HZ:Hid (∀x∈L,BytL x.z):=λx E=>HB.out x.z (by rw[<-I.out];exact List.mem_map_of_mem E)
   have cd:Hid (∀x∈L,x.z.length<=1000000):=λx E=>bk.out x.z (by rw[<-I.out];exact List.mem_map_of_mem E)
   clear bk;have ce:L.length<=1000000:=by
    have:=congrArg List.length I.out;rw[List.length_map]at this;omega
   clear G hL hR;generalize uy g=f at *;go_wp2
   rename World=>w1
   go_loopw [6] (ur7 w1 f) (λv _=>f.length+1-urI v)
   case atStart=>exact⟨[],⟨trivial,(λz hz=>by cases hz),(λz _ _ y o=>by cases o)⟩,NmR.nil (Keep.refl _ _)⟩
   case round =>
    obtain⟨L2,hO,U⟩:=hrel;obtain⟨oa,oc,rfl⟩:=U.shape;have HO:Hid (OutOK f (L2.map (·.z))):=hO;have Z:Hid (NmR w1 wr (.slice oa L2.length oc) L2):=U;have KK:Hid (Keep (λ_=>False) w1 wr):=U.keep;have bn:L2.length<=f.length:=by
     have:=hO.asc.len hO.sub;rwa [List.length_map]at this
    have bl:L.length=f.length:=(by rw[<-I.out,List.length_map]);have ad:Hid (L.length=f.length):=bl;obtain⟨C,a2⟩:∃C,C=L2.length:=⟨_,rfl⟩;rw[<-a2]at Z bn ⊢;have R:Hid (C=L2.length):=a2;clear hO U bl a2;go_wp2;go_loopw [7,8] (ujA wr f (L2.map (·.z))) (λ_ v8 _=>f.length-(intOf v8).toNat)
    case atStart=>exact⟨0,0,none,Nat.zero_le _,rfl,rfl,rfl,(λj z hj=>absurd hj (by omega))⟩
    case round =>
     obtain⟨i,m,k,hi,rfl,rfl,rfl,hB⟩:=hrel;have r:Hid (BestOK f (L2.map (·.z)) i k):=hB;clear hB;obtain⟨V,hV⟩:∃V,wr.drewN m=V:=⟨_,rfl⟩;have ca:Hid (∀n,∃q,V.drewN n=wr.drewN q):=λn=>⟨m+n,by rw[<-hV,World.drewN_drewN]⟩
     have al:Hid (Below wr.heap.size wr V):=(by rw[<-hV];exact below_drewN (Below.refl _ wr) m);have ai:Hid (V.heap.size=wr.heap.size/\Keep (λ_=>False) wr V):=(by rw[<-hV];exact⟨by simp,uI wr m⟩);have Y:Hid (Below w1.heap.size w1 V):=ud KK.out.bel al.out;rw[hV];clear hV;by_cases bs:i<f.length
     ·have cs:(i:Int)<L.length:=(by have:=ad.out;omega);have cg:i<L.length:=(by have:=ad.out;omega);obtain⟨x,E⟩:∃x,L[i]?=some x:=⟨_,List.getElem?_eq_getElem cg⟩;have ab:Hid (f[i]?=some x.z):=(by show _=_;rw[<-I.out,List.getElem?_map,E];rfl);obtain⟨P,t⟩:=O.out;obtain⟨gb,rfl,_,c0⟩:=t.cells E;have c0':=uc c0 Y.out;have HX:Hid (Ints (λb=>b<w1.heap.size/\¬P b) .u8 V x.a x.z.length (lf x.z)):=(t.nm x (List.mem_of_getElem? E)).later Y.out;have BX:Hid (BytL x.z):=HZ.out x (List.mem_of_getElem? E);have av:Hid (∀n H,BestOK f (L2.map (·.z)) (i+1) H->ujA wr f (L2.map (·.z)) (.int .i64 (uaH H)) (.int .i64 ((i:Int)+1)) (V.drewN n)):=λn H hk=>by
       obtain⟨q,G⟩:=ca.out n;exact⟨i+1,q,H,bs,by simp,rfl,G,hk⟩
      clear t c0 E;rcases List.eq_nil_or_concat L2 with bd|⟨l,y,X⟩
      ·have af:Hid (cand (L2.map (·.z)) x.z):=(by rw[bd];exact uml _);obtain rfl:C=0:=(by rw[R.out,bd];rfl);clear bd;go_upto_region 17 with fail;go_quiet (fail);go_upto_region 18 with fail;obtain⟨s,W⟩:∃s,V.drewN nq=s:=⟨_,rfl⟩;have B:Hid (Below V.heap.size V s):=(by rw[<-W];exact below_drewN (Below.refl _ V) nq);have aa:Hid (∀n H,BestOK f (L2.map (·.z)) (i+1) H->ujA wr f (L2.map (·.z)) (.int .i64 (uaH H)) (.int .i64 ((i:Int)+1)) (s.drewN n)):=λn H hk=>by rw[<-W,World.drewN_drewN];exact av.out _ _ hk
       rw[W];clear W;have c0'':=uc c0' B.out;clear c0';cases k with
       |none =>
        (try simp only[uaH])
        have J:Hid (BestOK f (L2.map (·.z)) (i+1) (some i)):=BestOK.first r.out ab.out af.out
        clear r;go_quiet (fail);go_wp2;go_roundw;all_goals first
         |exact(aa.out _ (some i) J.out)
         |(simp[intOf];omega)
       |some A =>
        (try simp only[uaH])
        obtain⟨bq,mm,N,aj,ak⟩:=r.out;rw[<-I.out,List.getElem?_map]at N;obtain⟨y,o,rfl⟩:=Option.map_eq_some_iff.1 N;have ag:Hid (f[A]?=some y.z):=(by show _=_;rw[<-I.out,List.getElem?_map,o];rfl);obtain⟨P,t⟩:=O.out;obtain⟨a0,T,_,c1⟩:=t.cells o;obtain rfl:gb=a0:=(by injection T with T;injection T);have c1':=uc c1 (ud Y B);have S:Hid (Ints (λb=>b<w1.heap.size/\¬P b) .u8 s y.a y.z.length (lf y.z)):=(t.nm y (List.mem_of_getElem? o)).later (ud Y B);have BY:Hid (BytL y.z):=HZ y (List.mem_of_getElem? o);have br:(A:Int)<L.length:=(by omega);have bp:¬(A:Int)<0:=(by omega);clear t T c1 N aj ak o;by_cases D:ltB x.z y.z
        ·have J:Hid (BestOK f (L2.map (·.z)) (i+1) (some i)):=BestOK.less r ag ab af D;have F:Hid (∀d,Calls Tryz.prog 61 #[.slice x.a x.z.length x.c,.slice y.a y.z.length y.c] (s.drewN d) λe w'=>e=.returned (.bool true)/\w'=s.drewN d):=ueV (HX.later B) S BX BY ⟨λ_=>D,λ_=>rfl⟩;clear r D;go_quiet (first|(go_at_call 61;exact Calls.quiet_of_same (F _)));go_wp2;go_roundw;all_goals first
          |exact(aa _ (some i) J)
          |(simp[intOf];omega)
        have J:Hid (BestOK f (L2.map (·.z)) (i+1) (some A)):=BestOK.more r ag ab D;have F:Hid (∀d,Calls Tryz.prog 61 #[.slice x.a x.z.length x.c,.slice y.a y.z.length y.c] (s.drewN d) λe w'=>e=.returned (.bool false)/\w'=s.drewN d):=ueV (HX.out.later B.out) S.out BX.out BY.out ⟨λq=>absurd q (by decide),λq=>absurd q D⟩;clear r D;go_quiet (first|(go_at_call 61;exact Calls.quiet_of_same (F.out _)));go_wp2;go_roundw;all_goals first
         |exact(aa.out _ (some A) J.out)
         |(simp[intOf];omega)
      rw[List.concat_eq_append]at X;have aq:L2[l.length]?=some y:=(by rw[X];simp);obtain⟨P2,a4⟩:=Z.out;obtain⟨go,rfl,_,d0⟩:=a4.cells aq;have d0':=uc d0 al.out;have ax:Hid (Ints (λb=>b<wr.heap.size/\¬P2 b) .u8 V y.a y.z.length (lf y.z)):=(a4.nm y (List.mem_of_getElem? aq)).later al.out;have au:Hid (BytL y.z):=HB.out _ (HO.out.sub _ (List.mem_map_of_mem (List.mem_of_getElem? aq)));have am:Hid (cand (L2.map (·.z)) x.z↔ltB y.z x.z):=by
       show _↔_;rw[X,List.map_append];exact ukC _ _ _
      have bt:(C:Int) > 0:=(by rw[R.out,X];simp only[List.length_append,List.length_singleton];omega);have ct:decide ((C:Int) > 0)=true:=decide_eq_true bt;have cu:decide ((0:Int)<(C:Int))=true:=decide_eq_true bt;have ch:0<C:=(by omega);have cv:decide (0<C)=true:=decide_eq_true ch;have cw:IntKind.i64.wrap ((C:Int)-1)=(l.length:Nat):=by
       rw[show(C:Int)-1=(l.length:Nat) by rw[R.out,X];simp];exact ugN (by omega) (by have:=congrArg List.length X;have:=R.out;simp only[List.length_append,List.length_singleton]at *;omega)
      have cj:(C:Int)-1=(l.length:Nat):=(by rw[R.out,X];simp);have ap:(l.length:Int)<C:=(by rw[R.out,X];simp only[List.length_append,List.length_singleton];omega);clear a4 d0 aq X;by_cases ae:ltB y.z x.z
      ·have af:Hid (cand (L2.map (·.z)) x.z):=am.out.2 ae;have F:Hid (∀d,Calls Tryz.prog 61 #[.slice y.a y.z.length y.c,.slice x.a x.z.length x.c] (V.drewN d) λe w'=>e=.returned (.bool true)/\w'=V.drewN d):=ueV ax.out HX.out au.out BX.out ⟨λ_=>ae,λ_=>rfl⟩;clear ae am;go_upto_region 17 with fail;go_quiet (first|(go_at_call 61;exact Calls.quiet_of_same (F.out _)));clear F ax au d0' cj ap;go_upto_region 18 with fail;obtain⟨s,W⟩:∃s,V.drewN nq=s:=⟨_,rfl⟩;have B:Hid (Below V.heap.size V s):=(by rw[<-W];exact below_drewN (Below.refl _ V) nq);have aa:Hid (∀n H,BestOK f (L2.map (·.z)) (i+1) H->ujA wr f (L2.map (·.z)) (.int .i64 (uaH H)) (.int .i64 ((i:Int)+1)) (s.drewN n)):=λn H hk=>by rw[<-W,World.drewN_drewN];exact av.out _ _ hk
       rw[W];clear W;have c0'':=uc c0' B.out;clear c0';cases k with
       |none =>
        (try simp only[uaH])
        have J:Hid (BestOK f (L2.map (·.z)) (i+1) (some i)):=BestOK.first r.out ab.out af.out
        clear r;go_quiet (fail);go_wp2;go_roundw;all_goals first
         |exact(aa.out _ (some i) J.out)
         |(simp[intOf];omega)
       |some A =>
        (try simp only[uaH])
        obtain⟨bq,mm,N,aj,ak⟩:=r.out;rw[<-I.out,List.getElem?_map]at N;obtain⟨y,o,rfl⟩:=Option.map_eq_some_iff.1 N;have ag:Hid (f[A]?=some y.z):=(by show _=_;rw[<-I.out,List.getElem?_map,o];rfl);obtain⟨P,t⟩:=O.out;obtain⟨a0,T,_,c1⟩:=t.cells o;obtain rfl:gb=a0:=(by injection T with T;injection T);have c1':=uc c1 (ud Y B);have S:=ua ((t.nm y (List.mem_of_getElem? o)).later (ud Y B));have BY:=ua (HZ y (List.mem_of_getElem? o));have br:(A:Int)<L.length:=(by omega);have bp:¬(A:Int)<0:=(by omega);clear t T c1 N aj ak o;by_cases D:ltB x.z y.z
        ·have J:Hid (BestOK f (L2.map (·.z)) (i+1) (some i)):=BestOK.less r ag ab af D;have F:=ua (ueV (HX.later B) S BX BY ⟨λ_=>D,λ_=>rfl⟩);clear r D;go_quiet (first|(go_at_call 61;exact Calls.quiet_of_same (F _)));go_wp2;go_roundw;all_goals first
          |exact(aa _ (some i) J)
          |(simp[intOf];omega)
        have J:Hid (BestOK f (L2.map (·.z)) (i+1) (some A)):=BestOK.more r ag ab D;have F:Hid (∀d,Calls Tryz.prog 61 #[.slice x.a x.z.length x.c,.slice y.a y.z.length y.c] (s.drewN d) λe w'=>e=.returned (.bool false)/\w'=s.drewN d):=ueV (HX.later B) S BX BY ⟨λq=>absurd q (by decide),λq=>absurd q D⟩;clear r D;go_quiet (first|(go_at_call 61;exact Calls.quiet_of_same (F _)));go_wp2;go_roundw;all_goals first
         |exact(aa _ (some A) J)
         |(simp[intOf];omega)
      have b0:Hid (BestOK f (L2.map (·.z)) (i+1) k):=r.skip ab (λq=>ae (am.1 q));have F:Hid (∀d,Calls Tryz.prog 61 #[.slice y.a y.z.length y.c,.slice x.a x.z.length x.c] (V.drewN d) λe w'=>e=.returned (.bool false)/\w'=V.drewN d):=ueV ax.out HX.out au.out BX.out ⟨λq=>absurd q (by decide),λq=>absurd q ae⟩;clear ae am r;go_upto_region 17 with fail;go_quiet (first|(go_at_call 61;exact Calls.quiet_of_same (F _)));go_wp2;go_roundw;all_goals first
       |exact(av _ k b0)
       |(simp[intOf];omega)
     have hlt':¬(i:Int)<L.length:=(by have:=ad.out;omega);have HI:Hid (i=f.length):=(by show i=f.length;omega);cases k with
     |none =>
      (try simp only[uaH])
      have HE:Hid (∀z,z∈L2.map (·.z)↔z∈f):=HO.done (by have:=r;rw[HI.out]at this;exact this);go_wp2;go_ret;have hr:=Z.read.later al;rw[<-ai.out.1]at hr;exact⟨oa,oc,L2.map (·.z),by rw[List.length_map,<-R.out];rfl,HO.out.asc,HE.out,hr,(O.out.keep.trans KK.out).trans ai.out.2⟩
     |some A =>
      (try simp only[uaH])
      have hB:=r;rw[HI.out]at hB;have B:=ua hB;obtain⟨bq,mm,N,aj,ak⟩:=hB;rw[<-I.out,List.getElem?_map]at N;obtain⟨y,o,rfl⟩:=Option.map_eq_some_iff.1 N;have b8:Hid (OutOK f (L2.map (·.z)++[y.z])):=HO.snoc B (by rw[<-I.out,List.getElem?_map,o];rfl);obtain⟨P,t⟩:=O;obtain⟨gb,rfl,_,c1⟩:=t.cells o;have c1':=uc c1 Y;have S:=ua ((t.nm y (List.mem_of_getElem? o)).later Y);have cy:=ub c1';have br:(A:Int)<L.length:=(by have:=ad.out;omega);have bp:¬(A:Int)<0:=(by omega);have cx:=cd y (List.mem_of_getElem? o);have cb:Hid (∀W3 a3,Ints (New V W3) .u8 W3 a3 y.z.length (lf y.z)->Ints (New wr W3) .u8 W3 a3 y.z.length (lf y.z)):=λW3 a3 h=>h.wide (λb hb=>⟨by have:=ai.1;have:=hb.1;omega,hb.2⟩)
      have b6:=ua ai.2;have cf:L2.length<=1048576:=(by have:=R.out;omega);clear t c1 N aj ak o r ai;go_wp2_with (first|(at_builtin;refine ur4 rfl _ _ rfl rfl rfl (z:=y.z) S.out (by omega) ?_;intro a3 c3 W3 b4 b5)|(at_builtin;refine nmB rfl _ _ rfl rfl rfl (y:=⟨y.z,a3,c3⟩) Z.out (b6.trans b5) (cb _ _ b4) cf ?_;intro a5 c5 W5 ah));go_roundw
      case rel=>exact⟨L2++[⟨y.z,a3,c3⟩],by rw[List.map_append];exact b8.out,ah.out⟩
      case measure=>simp only[urI];have:=R.out;omega
  |cons q rest =>
   have a7:done.length<g.length:=(by rw[G];simp);have ce:L.length<=1000000:=by
    have h1:L.length=(uy done).length:=(by rw[<-hL,List.length_map]);have h2:(uy g).length=(uy done).length+(uy (q::rest)).length:=(by rw[G];simp[uy]);omega
   have a9:g[done.length]?=some q:=(by rw[G];simp);obtain⟨b,off,rfl,ac⟩:=HT.at a7;obtain⟨h1,h2,ba,bc,h3,h4,h5⟩:=ac _ q a9;have bj:=ua (ac _ q a9);have O:Hid (NmR w wr (.slice va L.length vc) L):=hR;have HQ:Hid (g=(done++[q])++rest/\L.map (·.z)=uy done):=⟨by rw[G];simp,hL⟩;have ad:Hid ((uy done).length+(xA q).length<=1000000):=by
    have h2:(uy g).length=(uy done).length+((xA q).length+(uy rest).length):=(by rw[G];simp[uy]);show _<=_;omega
   have co:q.body.tk.length<=1000000:=by
    have h2:(g.flatMap Rl.tk).length=(done.flatMap Rl.tk).length+(q.tk.length+(rest.flatMap Rl.tk).length):=(by rw[G];simp);have:=q.len;have:=b9.out;omega
   have hdl':((done.length:Nat):Int)<g.length:=(by omega);clear ac h1 h2 h3 h4 h5 G hL hR a9;have bf:Hid (∃d,d=done.length):=⟨_,rfl⟩;obtain⟨d,a8⟩:=bf.out;have b2:Hid (d=done.length):=a8;rw[<-a8]at a7 hdl' bj ⊢;clear a8 bf;have kb:=O.keep.bel;obtain⟨h1,h2,ba,bc,h3,h4,h5⟩:=bj;obtain⟨na,nc,n2,bu⟩:=h2.nm;have bh:=ua bu;have bx:=ua h4;have bz:Hid (w.cell? ⟨b,off+d*6+5,none⟩=some (.slice ba q.body.tk.length bc)):=h3;have r0:=uc h1 kb;have r1:=uc n2 kb;clear h1 h2 h3 h4 h5 n2 bu kb;go_upto_if 19 with fail;go_cut [3] from 9 to 61 (λv wc=>∃L:List NC,L.map (·.z)=uy done++(if q.car.isSome then [q.name.nm] else [])/\NmR w wc v L)
   case first =>
    cases ao:q.car with
    |none =>
     rw[ao]at r0;simp only[Option.isSome_none]at r0;go_wp2;go_meet
     case rel=>exact⟨L,by rw[HQ.out.2];simp[ao],O.out⟩
    |some cc =>
     rw[ao]at r0;simp only[Option.isSome_some]at r0;go_wp2_with (at_builtin;refine nmA rfl _ _ rfl rfl rfl (y:=⟨q.name.nm,na,nc⟩) O.out (Keep.refl _ _) bh.out (by omega) ?_;intro a5 c5 W5 ah);go_meet
     case rel=>exact⟨L++[⟨q.name.nm,na,nc⟩],by rw[List.map_append,HQ.out.2];simp[ao],ah.out⟩
   case rest =>
    obtain⟨L1,bm,a6⟩:=hcut;obtain⟨cz,c2,rfl⟩:=a6.shape;have bg:=ua bm;have bi:=ua a6;clear bm a6 r0 r1 O bh;go_wp2;go_loopw [3,5] (ur6 w q.body.tk (uy done++xA q)) (λ_ u _=>q.body.tk.length+1-(intOf u).toNat)
    case atStart=>exact⟨1,L1,by omega,by omega,rfl,by rw[bg.out];simp[xA],bi⟩
    case round =>
     obtain⟨j,L2,cp,cq,rfl,a1,U⟩:=hrel;obtain⟨ck,cm,rfl⟩:=U.shape;have kb:=U.keep.bel;have r5:=uc bz.out kb;have aw:Hid (L2.map (·.z)++yz (q.body.tk.drop (j-1))=uy done++xA q):=a1;have Z:Hid (NmR w wr (.slice ck L2.length cm) L2):=U;have bn:L2.length<=1000000:=by
      have h1:=congrArg List.length a1;have h2:=ad.out;simp only[List.length_append,List.length_map]at h1;omega
     clear a1 U bi bg;by_cases bs:j<q.body.tk.length
     ·obtain⟨p,rfl⟩:∃p,j=p+1:=⟨j-1,by omega⟩;obtain⟨bb,bo,rfl,ac⟩:=bx.at (i:=p) (by omega);obtain⟨x,E⟩:∃x,q.body.tk[p]?=some x:=⟨_,List.getElem?_eq_getElem (by omega)⟩;obtain⟨y,o⟩:∃y,q.body.tk[p+1]?=some y:=⟨_,List.getElem?_eq_getElem (by omega)⟩;have s0:=uc (ac p x E).kind kb;obtain⟨ya,yc,y2,bw⟩:=(ac (p+1) y o).nm;have s1:=uc y2 kb;have S:=ua bw;have az:Hid (L2.map (·.z)++((if x.kind=94 then [y.nm] else [])++yz (q.body.tk.drop (p+1)))=uy done++xA q):=by
       have:=aw.out;rw[Nat.add_sub_cancel,ugV E o]at this;exact this
      have v1:((p+1:Nat):Int)-1=(p:Int):=(by omega);have hp:(p:Int)<q.body.tk.length:=(by omega);have hlt':((p+1:Nat):Int)<q.body.tk.length:=(by omega);clear ac E o y2 bw aw kb;by_cases an:x.kind=94
      ·have ay:Hid ((L2++[(⟨y.nm,ya,yc⟩:NC)]).map (·.z)++yz (q.body.tk.drop (p+1))=uy done++xA q):=by
        have:=az.out;rw[if_pos an]at this;rw[List.map_append,List.append_assoc];exact this
       rw[an]at s0;clear az;go_wp2_with (at_builtin;refine nmA rfl _ _ rfl rfl rfl (y:=⟨y.nm,ya,yc⟩) Z.out (Keep.refl _ _) S.out (by omega) ?_;intro a5 c5 W5 ah);go_roundw
       case rel=>exact⟨p+1+1,_,by omega,by omega,by go_num,ay.out,ah.out⟩
       case measure=>simp[intOf];omega
      have ay:Hid (L2.map (·.z)++yz (q.body.tk.drop (p+1))=uy done++xA q):=by
       have:=az;rw[if_neg an,List.nil_append]at this;exact this
      have h94':(x.kind==94)=false:=(by simpa using an);go_wp2;go_roundw
      case rel=>exact⟨p+1+1,_,by omega,by omega,by go_num,ay,Z⟩
      case measure=>simp[intOf];omega
     have hlt':¬(j:Int)<q.body.tk.length:=(by omega);have b7:Hid (L2.map (·.z)=uy (done++[q])):=by
      have:=aw;rw[uim (by omega),List.append_nil]at this;exact this.trans (by simp[uy])
     have b3:Hid (((d:Int)+1)=((done++[q]).length:Nat)):=by
      have:=b2;show((d:Int)+1)=((done++[q]).length:Nat);rw[List.length_append,<-this];simp
     go_wp2;go_roundw
     case rel=>exact⟨done++[q],rest,L2,HQ.1,by rw[<-b3.out],b7,Z⟩
     case measure=>simp[intOf];omega
end Go.Proofs.YtpghlcdkfldlpaaGreat
