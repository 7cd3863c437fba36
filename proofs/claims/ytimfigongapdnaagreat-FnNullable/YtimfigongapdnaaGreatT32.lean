import Derived.Test.YtimfigongapdnaaGreatT31
set_option linter.unusedVariables false
set_option linter.unusedSimpArgs false
set_option maxHeartbeats 40000000
set_option maxRecDepth 100000
namespace Go.Proofs.YtimfigongapdnaaGreat
open Go.RowKit
open M (OpD ug Gr)
structure NC where
 z:List Int
 a:Option Addr
 c:Nat
def ncv(x:NC):List Value:=[.slice x.a x.z.length x.c]
theorem ujO x:(ncv x).length=1:=rfl
theorem ury:(Tryz.prog.info? 22).map (λi=>(i.zero,i.size,i.bytes))=some (some (.slice none 0 0),1,24):=by kernel_rfl
theorem umQ:vG 65 22 1 24:=⟨Tryz.underlying65,⟨_,ury,rfl⟩,by omega⟩
structure NmP(w wr:World)(v:Value)(L:List NC)(P:Nat->Prop):Prop where
 own:OwnC P wr v 1 L.length (L.flatMap ncv)
 new:∀b,P b->New w wr b
 nm:∀x∈L,Ints (λb=>b<wr.heap.size/\¬P b) .u8 wr x.a x.z.length (lf x.z)
 keep:Keep (λ_=>False) w wr
def NmR(w wr:World)(v:Value)(L:List NC):Prop:=∃P,NmP w wr v L P
theorem NmR.nil{w wr}(h:Keep (λ_=>False) w wr):NmR w wr (.slice none 0 0) [] :=
 ⟨λ_=>False,.inl ⟨rfl,rfl,rfl⟩,λ_ q=>q.elim,(λx a=>by cases a),h⟩
theorem NmR.shape{w wr v l}(h:NmR w wr v l):∃a c,v=.slice a l.length c:=by
 obtain⟨P,h⟩:=h;exact uk h.own
theorem NmR.keep{w wr v l}(h:NmR w wr v l):Keep (λ_=>False) w wr:=by
 obtain⟨P,h⟩:=h;exact h.keep
theorem uhd{w wr W W1 d v m l x P}(h:NmP w wr v l P)(i:Keep (λ_=>False) wr W)(g:Keep (λ_=>False) W W1)(t:Ints (λb=>b<W.heap.size/\¬P b) .u8 W x.a x.z.length (lf x.z))(A:OwnC (λb=>P b\/W1.heap.size<=b) d m 1 (l.length+1) (l.flatMap ncv++ncv x))(f:Grew P W1 d):NmR w d m (l++[x]):=by
 have E:=h.keep.size;have F:=i.size;have G:=g.size;have H:=f.size;refine⟨λb=>(P b\/W1.heap.size<=b)/\b<d.heap.size,?_,?_,?_,ye ((h.keep.trans i).trans g) f (λb q=>(h.new b q).1)⟩
 ·have e:(l++[x]).flatMap ncv=l.flatMap ncv++ncv x:=by simp
  rw[e,List.length_append,List.length_singleton];rcases A with⟨_,q,_⟩|⟨b,cap,e,B,o,p,s,j⟩
  ·omega
  refine .inr ⟨b,cap,e,⟨B,?_⟩,o,p,s,j⟩;obtain⟨u,C⟩:=Option.isSome_iff_exists.1 (j 0 (by omega)).1;exact ud C
 ·rintro b ⟨q|q,k⟩
  ·exact⟨(h.new b q).1,k⟩
  exact⟨by omega,k⟩
 intro y D;rcases List.mem_append.1 D with q|q
 ·have n:=h.nm y q;have st:Stay (λb=>b<wr.heap.size/\¬P b) wr d:=λb c=>(f.block b (by have:=c.1;omega) c.2).trans ((g.block b (by have:=c.1;omega) (λe=>e)).trans (i.block b c.1 (λe=>e)))
  exact(n.on st).wide (λb c=>⟨by have:=c.1;omega,λr=>r.1.elim c.2 (λr=>by have:=c.1;omega)⟩)
 obtain rfl:=List.mem_singleton.1 q;have st:Stay (λb=>b<W.heap.size/\¬P b) W d:=λb c=>(f.block b (by have:=c.1;omega) c.2).trans (g.block b c.1 (λe=>e))
 exact(t.on st).wide (λb c=>⟨by have:=c.1;omega,λr=>r.1.elim c.2 (λr=>by have:=c.1;omega)⟩)
theorem NmP.cells{w wr a n c L P}(h:NmP w wr (.slice a n c) L P){i x}(d:L[i]?=some x):∃b,a=some ⟨b,0,none⟩/\P b/\wr.cell? ⟨b,i,none⟩=some (.slice x.a x.z.length x.c):=by
 have p:=(List.getElem?_eq_some_iff.1 d).1;rcases h.own with⟨_,q,_⟩|⟨g,cap,e,k,l,m,f,o⟩
 ·omega
 injection e with e1 e2 e3;subst e1;have j:=yi ncv 1 ujO L;refine⟨g,rfl,k,?_⟩;have:=vw ncv 1 ujO L i 0 x d (by omega);rw[Nat.mul_one,Nat.add_zero]at this;rw[f i (by rw[j];omega),this];rfl
theorem NmR.read{w wr a n c L}(h:NmR w wr (.slice a n c) L):NmsA (λb=>b<wr.heap.size) wr a (L.map (·.z)):=by
 obtain⟨P,h⟩:=h;cases L with
 |nil=>exact .inl rfl
 |cons y r =>
  obtain⟨g,rfl,_,_⟩:=h.cells (i:=0) (x:=y) rfl;refine .inr ⟨g,0,rfl,λi z f=>?_⟩;rw[List.getElem?_map]at f;obtain⟨x,d,rfl⟩:=Option.map_eq_some_iff.1 f;obtain⟨j,e,m,l⟩:=h.cells d;obtain rfl:g=j:=by injection e with e;injection e
  exact⟨x.a,x.c,by rw[Nat.zero_add];exact l,(h.nm x (List.mem_of_getElem? d)).wide (λb k=>k.1)⟩
theorem umR(W:World)(x:NC){ty}:Src Tryz.prog 1 65 (.slice (some ⟨W.heap.size,0,none⟩) 1 1) 1 (ncv x) (W.alloc (.cells #[.slice x.a x.z.length x.c] ty)) :=
 yp Tryz.underlying65 rfl (λj u b=>by
  have d:=World.alloc_heap_new W (.cells #[.slice x.a x.z.length x.c] ty);simp only[World.cell?,d];rw[<-b];simp[ncv]) (λu b=>by
  simp only[ncv,List.mem_cons,List.not_mem_nil,or_false]at b;subst b;rfl)
theorem Ints.of{Q k w a n S}(h:Ints Q k w a n S):Ints (λb=>b<w.heap.size) k w a n S:=by
 rcases h with h|⟨b,off,e,d,h⟩
 ·exact .inl h
 by_cases c:n=0
 ·exact .inl c
 exact .inr ⟨b,off,e,ud (h 0 (by omega)),h⟩
theorem upi{Q w wr W1 c v d l x P}(h:NmP w wr v l P)(k:Keep (λ_=>False) wr W1)(g:Ints Q .u8 w x.a x.z.length (lf x.z))(i:OwnC (λb=>P b\/W1.heap.size<=b) c d 1 (l.length+1) (l.flatMap ncv++ncv x))(f:Grew P W1 c):NmR w c d (l++[x]) :=
 uhd h (Keep.refl _ _) k ((g.of.later h.keep.bel).wide (λb e=>⟨Nat.lt_of_lt_of_le e h.keep.size,λq=>by have:=(h.new b q).1;omega⟩)) i f
def usQ:Value->Nat
 |.slice _ n _=>n
 |_=>0
theorem nmA{ops:Array Oper}{rest:List Oper}{o:Oper}{a:Act}{f:Exit->Act->World->Prop}{Q:Nat->Prop}{w wr W:World}(A:o.guard=none)(s x:Operand)(C:o.op=.call { callee:=.builtin .append,args:=#[s,x],argTypes:=#[65,65] })
  {v:Value} {L:List NC} {y:NC} {ty:TypeId} (D:a.eval s=v) (E:a.eval x=.slice (some ⟨W.heap.size,0,none⟩) 1 1) (t:NmR w wr v L) (k:Keep (λ_=>False) wr W) (F:Ints Q .u8 w y.a y.z.length (lf y.z)) (G:L.length<=1048576)
  (h:∀g i d,Hid (NmR w d (.slice g (L.length+1) i) (L++[y]))->wpList Tryz.prog ops f rest (a.put o.dst (.slice g (L.length+1) i)) d):wpList Tryz.prog ops f (o::rest) a (W.alloc (.cells #[.slice y.a y.z.length y.c] ty)):=by
 obtain⟨P,e⟩:=t;have l:Keep (λ_=>False) wr (W.alloc (.cells #[.slice y.a y.z.length y.c] ty)):=k.trans (Keep.alloc _ _ _);refine uaL A s x 65 65 C D E umQ (Q:=P) (n:=L.length) (cs:=L.flatMap ncv) (m:=1) (news:=ncv y) (e.own.on (λb u=>l.block b (e.new b u).2 (λq=>q))) (umR W y) (by omega) ?_;intro I d j B H;obtain⟨p,r,rfl⟩:=uk j;exact h p r d (upi e l F j B)
theorem nmB{ops:Array Oper}{rest:List Oper}{o:Oper}{a:Act}{g:Exit->Act->World->Prop}{w wr W:World}(u:o.guard=none)(s x:Operand)(B:o.op=.call { callee:=.builtin .append,args:=#[s,x],argTypes:=#[65,65] })
  {v:Value} {L:List NC} {y:NC} {ty:TypeId} (C:a.eval s=v) (D:a.eval x=.slice (some ⟨W.heap.size,0,none⟩) 1 1) (t:NmR w wr v L) (k:Keep (λ_=>False) wr W) (E:Ints (New wr W) .u8 W y.a y.z.length (lf y.z)) (G:L.length<=1048576)
  (h:∀i j d,Hid (NmR w d (.slice i (L.length+1) j) (L++[y]))->wpList Tryz.prog ops g rest (a.put o.dst (.slice i (L.length+1) j)) d):wpList Tryz.prog ops g (o::rest) a (W.alloc (.cells #[.slice y.a y.z.length y.c] ty)):=by
 obtain⟨P,e⟩:=t;have F:Keep (λ_=>False) wr (W.alloc (.cells #[.slice y.a y.z.length y.c] ty)):=k.trans (Keep.alloc _ _ _);refine uaL u s x 65 65 B C D umQ (Q:=P) (n:=L.length) (cs:=L.flatMap ncv) (m:=1) (news:=ncv y) (e.own.on (λb f=>F.block b (e.new b f).2 (λq=>q))) (umR W y) (by omega) ?_;intro I d l A H;obtain⟨p,r,rfl⟩:=uk l;exact h p r d (uhd e k (Keep.alloc _ _ _) (E.wide (λb f=>⟨f.2,λq=>by have:=(e.new b q).2;have:=f.1;omega⟩)) l A)
theorem utl{ops:Array Oper}{rest:List Oper}{o:Oper}{a:Act}{f:Exit->Act->World->Prop}{Q:Nat->Prop}{W:World}(y:o.guard=none)(s x:Operand)(B:o.op=.call { callee:=.builtin .append,args:=#[s,x],argTypes:=#[22,22] })
  {ya:Option Addr} {yc:Nat} {z:List Int} {ty:TypeId} (D:a.eval s=.slice (some ⟨W.heap.size,0,none⟩) 0 0) (E:a.eval x=.slice ya z.length yc) (w:Ints Q .u8 W ya z.length (lf z)) (G:z.length<=1048576)
  (h:∀i v c,Hid (Ints (New W c) .u8 c i z.length (lf z))->Hid (Keep (λ_=>False) W c)->wpList Tryz.prog ops f rest (a.put o.dst (.slice i z.length v)) c):wpList Tryz.prog ops f (o::rest) a (W.alloc (.cells #[] ty)):=by
 refine uaL y s x 22 22 B D E qw (Q:=λb=>b=W.heap.size) (n:=0) (cs:=[]) (m:=z.length) (news:=uS .u8 (lf z) z.length) (.inr ⟨W.heap.size,0,rfl,rfl,rfl,Nat.le_refl _,(λj r=>by simp at r),(λj r=>by omega)⟩) (Ints.srcD Tryz.underlying22 (w.later (ui W _))) (by omega) ?_;intro I c d l H;rw[Nat.zero_add,List.nil_append]at d;obtain⟨u,c3,rfl⟩:=uk d;have J:W.heap.size+1<=c.heap.size:=by have:=l.size;simpa using this
 have A:=ye (Keep.alloc _ _ _) l (λb q=>by rw[q];exact Nat.le_refl _);refine h u c3 c ?_ A;by_cases t:z.length=0
 ·exact .inl t
 have p:=yZ d;have F:=p.of;rcases p with q|⟨g,off,e,C,k⟩
 ·exact absurd q t
 refine .inr ⟨g,off,e,⟨?_,ud (k 0 (by omega))⟩,k⟩;rcases C with q|q
 ·omega
 have q:W.heap.size+1<=g:=by simpa using q
 omega
theorem ujP{Q Q':Nat->Prop}{V}{x y:NC}{r:Bool}(j:Ints Q .u8 V x.a x.z.length (lf x.z))(k:Ints Q' .u8 V y.a y.z.length (lf y.z))(g:BytL x.z)(f:BytL y.z)(l:r=true↔ltB x.z y.z)(d:Nat) :
  Calls Tryz.prog 62 #[.slice x.a x.z.length x.c,.slice y.a y.z.length y.c] (V.drewN d) λe w'=>e=.returned (.bool r)/\w'=V.drewN d :=
 (uba (λ_=>True) x.a y.a x.z.length x.c y.z.length y.c (lf x.z) (lf y.z) _ ((j.later (below_drewN (Below.refl _ V) d)).wide (λ_ _=>trivial)) ((k.later (below_drewN (Below.refl _ V) d)).wide (λ_ _=>trivial)) g.byt f.byt).mono (λe W h=>by
  obtain⟨⟨b,rfl,i⟩,rfl⟩:=h;rw[ufX]at i;obtain rfl:b=r:=by
   cases r<;>cases b<;>simp_all
  exact⟨rfl,rfl⟩)
def utm(w:World)(a:List Rl)(v u:Value)(wr:World):Prop :=
 ∃(done rest:List Rl) (L:List NC),a=done++rest/\u=.int .i64 (done.length:Nat)/\L.map (·.z)=uB done/\NmR w wr v L
def utn(w:World)(l:List Tok)(R:List (List Int))(v u:Value)(wr:World):Prop :=
 ∃(j:Nat) (L:List NC),1<=j/\j<=l.length+1/\u=.int .i64 (j:Nat)/\L.map (·.z)++yj (l.drop (j-1))=R/\NmR w wr v L
theorem qG:∀a:List Rl,(uB a).length<=(a.flatMap Rl.tk).length
 |[]=>Nat.le_refl _
 |q::a=>by
  have b:=qG a;have c:=udB q.body.tk;have d:=q.len;have e:(xe q).length<=q.tk.length:=by
   unfold xe;rw[List.length_append];split<;>simp<;>omega
  simp only[uB,List.flatMap_cons,List.length_append]at b ⊢;omega
theorem Asc.last:∀{l:List (List Int)} {x:List Int},Asc (l++[x])->∀y∈l,ltB y x
 |[],x,_,y,hy=>by cases hy
 |u::l,x,h,y,hy=>by
  rcases List.mem_cons.1 hy with rfl|q
  ·exact h.1 x (by simp)
  exact Asc.last h.2 y q
def cand(a:List (List Int))(z:List Int):Prop:=∀y,a.getLast? = some y->ltB y z
theorem umS{a z}(h:Asc a)(d:cand a z):∀y∈a,ltB y z:=by
 intro y c;rcases List.eq_nil_or_concat a with e|⟨l,x,e⟩
 ·subst e;cases c
 subst e;rw[List.concat_eq_append]at *;have b:=d x (by simp);rcases List.mem_append.1 c with q|q
 ·exact udz (h.last y q) b
 rw[List.mem_singleton.1 q];exact b
structure OutOK(all out:List (List Int)):Prop where
 asc:Asc out
 sub:∀z∈out,z∈all
 far:∀z∈all,z ∉ out->∀y∈out,ltB y z
theorem OutOK.cand{b a}(h:OutOK b a){z}(e:z∈b)(c:z ∉ a):cand a z:=λy d=>h.far z e c y (List.mem_of_getLast? d)
def BestOK(a b:List (List Int))(i:Nat):Option Nat->Prop
 |none=>∀j z,j<i->a[j]?=some z->¬cand b z
 |some k=>k<i/\∃m,a[k]?=some m/\cand b m/\∀j z,j<i->a[j]?=some z->cand b z->¬ltB z m
theorem BestOK.skip{c d i}{k:Option Nat}{z}(h:BestOK c d i k)(l:c[i]?=some z)(f:¬cand d z):BestOK c d (i+1) k:=by
 have n:∀j,j<i+1->j<i\/j=i:=λj b=>by omega
 cases k with
 |none =>
  intro j y b a;rcases n j b with q|rfl
  ·exact h j y q a
  rw[l]at a;injection a with e;subst e;exact f
 |some k =>
  obtain⟨s,m,o,p,r⟩:=h;refine⟨by omega,m,o,p,λj y b a g=>?_⟩;rcases n j b with q|rfl
  ·exact r j y q a g
  rw[l]at a;injection a with e;subst e;exact absurd g f
theorem BestOK.first{a c i z}(h:BestOK a c i none)(d:a[i]?=some z)(f:cand c z):BestOK a c (i+1) (some i) :=
 ⟨by omega,z,d,f,λj y k b g=>by
  by_cases e:j=i
  ·subst e;rw[d]at b;injection b with e;subst e;exact xx _
  exact absurd g (h j y (by omega) b)⟩
theorem BestOK.less{a c i k z m}(h:BestOK a c i (some k))(q:a[k]?=some m)(g:a[i]?=some z)(n:cand c z)(p:ltB z m):BestOK a c (i+1) (some i):=by
 obtain⟨r,u,d,s,l⟩:=h;rw[q]at d;injection d with e;subst e;refine⟨by omega,z,g,n,λj y t b o f=>?_⟩;by_cases e:j=i
 ·subst e;rw[g]at b;injection b with e;subst e;exact xx _ f
 exact l j y (by omega) b o (udz f p)
theorem BestOK.more{a f i k z m}(h:BestOK a f i (some k))(d:a[k]?=some m)(p:a[i]?=some z)(o:¬ltB z m):BestOK a f (i+1) (some k):=by
 obtain⟨q,s,c,g,l⟩:=h;rw[d]at c;injection c with e;subst e;refine⟨by omega,m,d,g,λj y r b n=>?_⟩;by_cases e:j=i
 ·subst e;rw[p]at b;injection b with e;subst e;exact o
 exact l j y (by omega) b n
theorem OutOK.done{a b}(h:OutOK a b)(e:BestOK a b a.length none):∀z,z∈b↔z∈a:=λz=>by
 refine⟨h.sub z,λd=>Classical.byContradiction λf=>?_⟩;obtain⟨j,c⟩:=List.getElem?_of_mem d;exact e j z (List.getElem?_eq_some_iff.1 c).1 c (h.cand d f)
theorem OutOK.snoc{a d k m}(h:OutOK a d)(o:BestOK a d a.length (some k))(i:a[k]?=some m):OutOK a (d++[m]):=by
 obtain⟨t,u,f,l,n⟩:=o;rw[i]at f;injection f with e;subst e;have p:=umS h.asc l;refine⟨h.asc.snoc p,λz b=>?_,λz b c y s=>?_⟩
 ·rcases List.mem_append.1 b with q|q
  ·exact h.sub z q
  rw[List.mem_singleton.1 q];exact List.mem_of_getElem? i
 simp only[List.mem_append,List.mem_singleton,not_or]at c;rcases List.mem_append.1 s with q|q
 ·exact h.far z b c.1 y q
 rw[List.mem_singleton.1 q];obtain⟨j,g⟩:=List.getElem?_of_mem b;rcases ufW m z with r|r|r
 ·exact r
 ·exact absurd r.symm c.2
 exact absurd r (n j z (List.getElem?_eq_some_iff.1 g).1 g (h.cand b c.1))
def udv:Option Nat->Int
 |none=>-1
 |some k=>k
def uto(w1:World)(a:List (List Int))(v:Value)(wr:World):Prop:=∃L:List NC,OutOK a (L.map (·.z))/\NmR w1 wr v L
def umT(wr:World)(a b:List (List Int))(c d:Value)(e:World):Prop:=∃(i m:Nat) (k:Option Nat),i<=a.length/\d=.int .i64 (i:Nat)/\c=.int .i64 (udv k)/\e=wr.drewN m/\BestOK a b i k
theorem umU z:cand [] z:=λy a=>by simp at a
theorem ukZ l x z:cand (l++[x]) z↔ltB x z:=by
 unfold cand;simp
def urz(f:List (List Int))(w:World)(e:Ending)(w':World):Prop :=
 ∃a c d,e=.returned (.slice a d.length c)/\Asc d/\(∀z,z∈d↔z∈f)/\NmsA (λb=>b<w'.heap.size) w' a d/\Keep (λ_=>False) w w'
theorem ufQ Q f a c w(hT:RlsA Q w a f)(hl:(f.flatMap Rl.tk).length<=1000000)(hb:∀z∈uB f,BytL z)(a9:∀z∈uB f,z.length<=1000000) :
  Calls Tryz.prog 26 #[.slice a f.length c] w (urz (uB f) w):=by
 have al:=qG f;have cj:f.length<=(f.flatMap Rl.tk).length:=by
  clear hT hb hl al a9;induction f with
  |nil=>simp
  |cons q f ih=>have:=q.len;simp only[List.flatMap_cons,List.length_append,List.length_cons];omega
 have cs:f.length<=1000000:=by omega
 have co:(uB f).length<=1000000:=by omega
 have HB:Hid (∀z∈uB f,BytL z):=hb;have HT:Hid (RlsA Q w a f):=hT;have b6:Hid ((f.flatMap Rl.tk).length<=1000000):=hl;have bk:Hid (∀z∈uB f,z.length<=1000000):=a9;clear hT hb hl al cj a9;go_enter Tryz.func26,Tryz.ntmps26;go_wp2;go_loopw [3,4] (utm w f) (λ_ u _=>f.length-(intOf u).toNat)
 case atStart=>exact⟨[],f,[],rfl,rfl,rfl,NmR.nil (Keep.refl _ _)⟩
 case round =>
  obtain⟨done,rest,L,A,rfl,hL,hR⟩:=hrel;obtain⟨va,vc,rfl⟩:=hR.shape;cases rest with
  |nil =>
   have a1:¬((done.length:Nat):Int)<f.length:=(by rw[A];simp);have C:Hid (L.map (·.z)=uB f):=(by rw[A,List.append_nil];exact hL);have E:Hid (NmR w wr (.slice va L.length vc) L):=hR;have HZ:Hid (∀x∈L,BytL x.z):=λx s=>HB.out x.z (by rw[<-C.out];exact List.mem_map_of_mem s)
   have b9:Hid (∀x∈L,x.z.length<=1000000):=λx s=>bk.out x.z (by rw[<-C.out];exact List.mem_map_of_mem s)
   clear bk;have cb:L.length<=1000000:=by
    have:=congrArg List.length C.out;rw[List.length_map]at this;omega
   clear A hL hR;generalize uB f=g at *;go_wp2
   rename World=>w1
   go_loopw [6] (uto w1 g) (λv _=>g.length+1-usQ v)
   case atStart=>exact⟨[],⟨trivial,(λz hz=>by cases hz),(λz _ _ y o=>by cases o)⟩,NmR.nil (Keep.refl _ _)⟩
   case round =>
    obtain⟨L2,hO,F⟩:=hrel;obtain⟨oa,oc,rfl⟩:=F.shape;have HO:Hid (OutOK g (L2.map (·.z))):=hO;have I:Hid (NmR w1 wr (.slice oa L2.length oc) L2):=F;have KK:Hid (Keep (λ_=>False) w1 wr):=F.keep;have bn:L2.length<=g.length:=by
     have:=hO.asc.len hO.sub;rwa [List.length_map]at this
    have bl:L.length=g.length:=(by rw[<-C.out,List.length_map]);have X:Hid (L.length=g.length):=bl;obtain⟨r,ay⟩:∃r,r=L2.length:=⟨_,rfl⟩;rw[<-ay]at I bn ⊢;have D:Hid (r=L2.length):=ay;clear hO F bl ay;go_wp2;go_loopw [7,8] (umT wr g (L2.map (·.z))) (λ_ v8 _=>g.length-(intOf v8).toNat)
    case atStart=>exact⟨0,0,none,Nat.zero_le _,rfl,rfl,rfl,(λj z hj=>absurd hj (by omega))⟩
    case round =>
     obtain⟨i,m,k,hi,rfl,rfl,rfl,hB⟩:=hrel;have t:Hid (BestOK g (L2.map (·.z)) i k):=hB;clear hB;obtain⟨V,hV⟩:∃V,wr.drewN m=V:=⟨_,rfl⟩;have b7:Hid (∀n,∃q,V.drewN n=wr.drewN q):=λn=>⟨m+n,by rw[<-hV,World.drewN_drewN]⟩
     have af:Hid (Below wr.heap.size wr V):=(by rw[<-hV];exact below_drewN (Below.refl _ wr) m);have ae:Hid (V.heap.size=wr.heap.size/\Keep (λ_=>False) wr V):=(by rw[<-hV];exact⟨by simp,uX wr m⟩);have Y:Hid (Below w1.heap.size w1 V):=uf KK.out.bel af.out;rw[hV];clear hV;by_cases bp:i<g.length
     ·have ct:(i:Int)<L.length:=(by have:=X.out;omega);have ch:i<L.length:=(by have:=X.out;omega);obtain⟨x,s⟩:∃x,L[i]?=some x:=⟨_,List.getElem?_eq_getElem ch⟩;have ah:Hid (g[i]?=some x.z):=(by show _=_;rw[<-C.out,List.getElem?_map,s];rfl);obtain⟨P,B⟩:=E.out;obtain⟨gb,rfl,_,c0⟩:=B.cells s;have c0':=ue c0 Y.out;have HX:Hid (Ints (λb=>b<w1.heap.size/\¬P b) .u8 V x.a x.z.length (lf x.z)):=(B.nm x (List.mem_of_getElem? s)).later Y.out;have BX:Hid (BytL x.z):=HZ.out x (List.mem_of_getElem? s);have be:Hid (∀n N,BestOK g (L2.map (·.z)) (i+1) N->umT wr g (L2.map (·.z)) (.int .i64 (udv N)) (.int .i64 ((i:Int)+1)) (V.drewN n)):=λn N hk=>by
       obtain⟨q,A⟩:=b7.out n;exact⟨i+1,q,N,bp,by simp,rfl,A,hk⟩
      clear B c0 s;rcases List.eq_nil_or_concat L2 with a8|⟨l,y,G⟩
      focus
       have ao:Hid (cand (L2.map (·.z)) x.z):=(by rw[a8];exact umU _);obtain rfl:r=0:=(by rw[D.out,a8];rfl);clear a8;go_upto_region 17 with fail;go_quiet (fail);go_upto_region 18 with fail
      rotate_left
      focus
       rw[List.concat_eq_append]at G;have am:L2[l.length]?=some y:=(by rw[G];simp);obtain⟨P2,az⟩:=I.out;obtain⟨go,rfl,_,d0⟩:=az.cells am;have d0':=ue d0 af.out;have au:Hid (Ints (λb=>b<wr.heap.size/\¬P2 b) .u8 V y.a y.z.length (lf y.z)):=(az.nm y (List.mem_of_getElem? am)).later af.out;have an:Hid (BytL y.z):=HB.out _ (HO.out.sub _ (List.mem_map_of_mem (List.mem_of_getElem? am)));have ag:Hid (cand (L2.map (·.z)) x.z↔ltB y.z x.z):=by
        show _↔_;rw[G,List.map_append];exact ukZ _ _ _
       have bq:(r:Int) > 0:=(by rw[D.out,G];simp only[List.length_append,List.length_singleton];omega);have cu:decide ((r:Int) > 0)=true:=decide_eq_true bq;have cv:decide ((0:Int)<(r:Int))=true:=decide_eq_true bq;have ci:0<r:=(by omega);have cw:decide (0<r)=true:=decide_eq_true ci;have cx:IntKind.i64.wrap ((r:Int)-1)=(l.length:Nat):=by
        rw[show(r:Int)-1=(l.length:Nat) by rw[D.out,G];simp];exact ug9 (by omega) (by have:=congrArg List.length G;have:=D.out;simp only[List.length_append,List.length_singleton]at *;omega)
       have ck:(r:Int)-1=(l.length:Nat):=(by rw[D.out,G];simp);have al:(l.length:Int)<r:=(by rw[D.out,G];simp only[List.length_append,List.length_singleton];omega);clear az d0 am G;by_cases aa:ltB y.z x.z
       rotate_left
       ·have bw:Hid (BestOK g (L2.map (·.z)) (i+1) k):=t.skip ah (λq=>aa (ag.1 q));have H:Hid (∀d,Calls Tryz.prog 62 #[.slice y.a y.z.length y.c,.slice x.a x.z.length x.c] (V.drewN d) λe w'=>e=.returned (.bool false)/\w'=V.drewN d):=ujP au.out HX.out an.out BX.out ⟨λq=>absurd q (by decide),λq=>absurd q aa⟩;clear aa ag t;go_upto_region 17 with fail;go_quiet (first|(go_at_call 62;exact Calls.quiet_of_same (H _)));go_wp2;go_roundw;all_goals first
         |exact(be _ k bw)
         |(simp[intOf];omega)
       have ao:Hid (cand (L2.map (·.z)) x.z):=ag.out.2 aa;have H:Hid (∀d,Calls Tryz.prog 62 #[.slice y.a y.z.length y.c,.slice x.a x.z.length x.c] (V.drewN d) λe w'=>e=.returned (.bool true)/\w'=V.drewN d):=ujP au.out HX.out an.out BX.out ⟨λ_=>aa,λ_=>rfl⟩;clear aa ag;go_upto_region 17 with fail;go_quiet (first|(go_at_call 62;exact Calls.quiet_of_same (H.out _)));clear H au an d0' ck al;go_upto_region 18 with fail
      all_goals
       obtain⟨V2,aj⟩:∃V2,V.drewN nq=V2:=⟨_,rfl⟩;have S:Hid (Below V.heap.size V V2):=(by rw[<-aj];exact below_drewN (Below.refl _ V) nq);have ap:Hid (∀n N,BestOK g (L2.map (·.z)) (i+1) N->umT wr g (L2.map (·.z)) (.int .i64 (udv N)) (.int .i64 ((i:Int)+1)) (V2.drewN n)):=λn N hk=>by rw[<-aj,World.drewN_drewN];exact be.out _ _ hk
       rw[aj];clear aj;have c0'':=ue c0' S.out;clear c0';cases k with
       |none =>
        (try simp only[udv])
        have ac:Hid (BestOK g (L2.map (·.z)) (i+1) (some i)):=BestOK.first t.out ah.out ao.out
        clear t;go_quiet (fail);go_wp2;go_roundw;all_goals first
         |exact(ap.out _ (some i) ac.out)
         |(simp[intOf];omega)
       |some R =>
        (try simp only[udv])
        obtain⟨cf,mm,W,a6,a7⟩:=t.out;rw[<-C.out,List.getElem?_map]at W;obtain⟨y,o,rfl⟩:=Option.map_eq_some_iff.1 W;have bg:Hid (g[R]?=some y.z):=(by show _=_;rw[<-C.out,List.getElem?_map,o];rfl);obtain⟨P,B⟩:=E.out;obtain⟨ca,e',_,c1⟩:=B.cells o;obtain rfl:gb=ca:=(by injection e' with e';injection e');have c1':=ue c1 (uf Y S);have Z:=ua ((B.nm y (List.mem_of_getElem? o)).later (uf Y S));have BY:=ua (HZ y (List.mem_of_getElem? o));have cg:(R:Int)<L.length:=(by omega);have ce:¬(R:Int)<0:=(by omega);clear B e' c1 W a6 a7 o;by_cases ab:ltB x.z y.z
        ·have ac:Hid (BestOK g (L2.map (·.z)) (i+1) (some i)):=BestOK.less t bg ah ao ab;have H:=ua (ujP (HX.later S) Z BX BY ⟨λ_=>ab,λ_=>rfl⟩);clear t ab;go_quiet (first|(go_at_call 62;exact Calls.quiet_of_same (H _)));go_wp2;go_roundw;all_goals first
          |exact(ap _ (some i) ac)
          |(simp[intOf];omega)
        have ac:Hid (BestOK g (L2.map (·.z)) (i+1) (some R)):=BestOK.more t bg ah ab;have H:Hid (∀d,Calls Tryz.prog 62 #[.slice x.a x.z.length x.c,.slice y.a y.z.length y.c] (V2.drewN d) λe w'=>e=.returned (.bool false)/\w'=V2.drewN d):=ujP (HX.later S) Z BX BY ⟨λq=>absurd q (by decide),λq=>absurd q ab⟩;clear t ab;go_quiet (first|(go_at_call 62;exact Calls.quiet_of_same (H _)));go_wp2;go_roundw;all_goals first
         |exact(ap _ (some R) ac)
         |(simp[intOf];omega)
     have hlt':¬(i:Int)<L.length:=(by have:=X.out;omega);have HI:Hid (i=g.length):=(by show i=g.length;omega);cases k with
     |none =>
      (try simp only[udv])
      have HE:Hid (∀z,z∈L2.map (·.z)↔z∈g):=HO.done (by have:=t;rw[HI.out]at this;exact this);go_wp2;go_ret;have hr:=I.read.later af;rw[<-ae.out.1]at hr;exact⟨oa,oc,L2.map (·.z),by rw[List.length_map,<-D.out];rfl,HO.out.asc,HE.out,hr,(E.out.keep.trans KK.out).trans ae.out.2⟩
     |some R =>
      (try simp only[udv])
      have hB:=t;rw[HI.out]at hB;have S:=ua hB;obtain⟨cf,mm,W,a6,a7⟩:=hB;rw[<-C.out,List.getElem?_map]at W;obtain⟨y,o,rfl⟩:=Option.map_eq_some_iff.1 W;have b5:Hid (OutOK g (L2.map (·.z)++[y.z])):=HO.snoc S (by rw[<-C.out,List.getElem?_map,o];rfl);obtain⟨P,B⟩:=E;obtain⟨gb,rfl,_,c1⟩:=B.cells o;have c1':=ue c1 Y;have Z:=ua ((B.nm y (List.mem_of_getElem? o)).later Y);have cz:=ud c1';have cg:(R:Int)<L.length:=(by have:=X.out;omega);have ce:¬(R:Int)<0:=(by omega);have cy:=b9 y (List.mem_of_getElem? o);have b8:Hid (∀W3 a3,Ints (New V W3) .u8 W3 a3 y.z.length (lf y.z)->Ints (New wr W3) .u8 W3 a3 y.z.length (lf y.z)):=λW3 a3 h=>h.wide (λb hb=>⟨by have:=ae.1;have:=hb.1;omega,hb.2⟩)
      have b3:=ua ae.2;have cd:L2.length<=1048576:=(by have:=D.out;omega);clear B c1 W a6 a7 o t ae;go_wp2_with (first|(at_builtin;refine utl rfl _ _ rfl rfl rfl (z:=y.z) Z.out (by omega) ?_;intro a3 c3 W3 b0 b2)|(at_builtin;refine nmB rfl _ _ rfl rfl rfl (y:=⟨y.z,a3,c3⟩) I.out (b3.trans b2) (b8 _ _ b0) cd ?_;intro a5 c5 W5 ad));go_roundw
      case rel=>exact⟨L2++[⟨y.z,a3,c3⟩],by rw[List.map_append];exact b5.out,ad.out⟩
      case measure=>simp only[usQ];have:=D.out;omega
  |cons q rest =>
   have a1:done.length<f.length:=(by rw[A];simp);have cb:L.length<=1000000:=by
    have T:L.length=(uB done).length:=(by rw[<-hL,List.length_map]);have J:(uB f).length=(uB done).length+(uB (q::rest)).length:=(by rw[A];simp[uB]);omega
   have a4:f[done.length]?=some q:=(by rw[A];simp);obtain⟨b,off,rfl,U⟩:=HT.at a1;obtain⟨T,J,ba,bc,h3,h4,h5⟩:=U _ q a4;have bj:=ua (U _ q a4);have E:Hid (NmR w wr (.slice va L.length vc) L):=hR;have HQ:Hid (f=(done++[q])++rest/\L.map (·.z)=uB done):=⟨by rw[A];simp,hL⟩;have X:Hid ((uB done).length+(xe q).length<=1000000):=by
    have J:(uB f).length=(uB done).length+((xe q).length+(uB rest).length):=(by rw[A];simp[uB]);show _<=_;omega
   have cp:q.body.tk.length<=1000000:=by
    have J:(f.flatMap Rl.tk).length=(done.flatMap Rl.tk).length+(q.tk.length+(rest.flatMap Rl.tk).length):=(by rw[A];simp);have:=q.len;have:=b6.out;omega
   have hdl':((done.length:Nat):Int)<f.length:=(by omega);clear U T J h3 h4 h5 A hL hR a4;have bd:Hid (∃d,d=done.length):=⟨_,rfl⟩;obtain⟨d,a2⟩:=bd.out;have bx:Hid (d=done.length):=a2;rw[<-a2]at a1 hdl' bj ⊢;clear a2 bd;have O:=E.keep.bel;obtain⟨T,J,ba,bc,h3,h4,h5⟩:=bj;obtain⟨na,nc,n2,br⟩:=J.nm;have bh:=ua br;have bt:=ua h4;have bu:Hid (w.cell? ⟨b,off+d*6+5,none⟩=some (.slice ba q.body.tk.length bc)):=h3;have r0:=ue T O;have r1:=ue n2 O;clear T J h3 h4 h5 n2 br O;go_upto_if 19 with fail;go_cut [3] from 9 to 61 (λv wc=>∃L:List NC,L.map (·.z)=uB done++(if q.car.isSome then [q.name.nm] else [])/\NmR w wc v L)
   case first =>
    cases ak:q.car with
    |none =>
     rw[ak]at r0;simp only[Option.isSome_none]at r0;go_wp2;go_meet
     case rel=>exact⟨L,by rw[HQ.out.2];simp[ak],E.out⟩
    |some cc =>
     rw[ak]at r0;simp only[Option.isSome_some]at r0;go_wp2_with (at_builtin;refine nmA rfl _ _ rfl rfl rfl (y:=⟨q.name.nm,na,nc⟩) E.out (Keep.refl _ _) bh.out (by omega) ?_;intro a5 c5 W5 ad);go_meet
     case rel=>exact⟨L++[⟨q.name.nm,na,nc⟩],by rw[List.map_append,HQ.out.2];simp[ak],ad.out⟩
   case rest =>
    obtain⟨L1,bm,a0⟩:=hcut;obtain⟨c2,c4,rfl⟩:=a0.shape;have bf:=ua bm;have bi:=ua a0;clear bm a0 r0 r1 E bh;go_wp2;go_loopw [3,5] (utn w q.body.tk (uB done++xe q)) (λ_ u _=>q.body.tk.length+1-(intOf u).toNat)
    case atStart=>exact⟨1,L1,by omega,by omega,rfl,by rw[bf.out];simp[xe],bi⟩
    case round =>
     obtain⟨j,L2,cq,cr,rfl,ax,F⟩:=hrel;obtain⟨cm,cn,rfl⟩:=F.shape;have O:=F.keep.bel;have r5:=ue bu.out O;have aq:Hid (L2.map (·.z)++yj (q.body.tk.drop (j-1))=uB done++xe q):=ax;have I:Hid (NmR w wr (.slice cm L2.length cn) L2):=F;have bn:L2.length<=1000000:=by
      have T:=congrArg List.length ax;have J:=X.out;simp only[List.length_append,List.length_map]at T;omega
     clear ax F bi bf;by_cases bp:j<q.body.tk.length
     ·obtain⟨p,rfl⟩:∃p,j=p+1:=⟨j-1,by omega⟩;obtain⟨bb,bo,rfl,U⟩:=bt.at (i:=p) (by omega);obtain⟨x,s⟩:∃x,q.body.tk[p]?=some x:=⟨_,List.getElem?_eq_getElem (by omega)⟩;obtain⟨y,o⟩:∃y,q.body.tk[p+1]?=some y:=⟨_,List.getElem?_eq_getElem (by omega)⟩;have s0:=ue (U p x s).kind O;obtain⟨ya,yc,y2,bs⟩:=(U (p+1) y o).nm;have s1:=ue y2 O;have Z:=ua bs;have aw:Hid (L2.map (·.z)++((if x.kind=94 then [y.nm] else [])++yj (q.body.tk.drop (p+1)))=uB done++xe q):=by
       have:=aq.out;rw[Nat.add_sub_cancel,uhh s o]at this;exact this
      have v1:((p+1:Nat):Int)-1=(p:Int):=(by omega);have hp:(p:Int)<q.body.tk.length:=(by omega);have hlt':((p+1:Nat):Int)<q.body.tk.length:=(by omega);clear U s o y2 bs aq O;by_cases ai:x.kind=94
      ·have av:Hid ((L2++[(⟨y.nm,ya,yc⟩:NC)]).map (·.z)++yj (q.body.tk.drop (p+1))=uB done++xe q):=by
        have:=aw.out;rw[if_pos ai]at this;rw[List.map_append,List.append_assoc];exact this
       rw[ai]at s0;clear aw;go_wp2_with (at_builtin;refine nmA rfl _ _ rfl rfl rfl (y:=⟨y.nm,ya,yc⟩) I.out (Keep.refl _ _) Z.out (by omega) ?_;intro a5 c5 W5 ad);go_roundw
       case rel=>exact⟨p+1+1,_,by omega,by omega,by go_num,av.out,ad.out⟩
       case measure=>simp[intOf];omega
      have av:Hid (L2.map (·.z)++yj (q.body.tk.drop (p+1))=uB done++xe q):=by
       have:=aw;rw[if_neg ai,List.nil_append]at this;exact this
      have h94':(x.kind==94)=false:=(by simpa using ai);go_wp2;go_roundw
      case rel=>exact⟨p+1+1,_,by omega,by omega,by go_num,av,I⟩
      case measure=>simp[intOf];omega
     have hlt':¬(j:Int)<q.body.tk.length:=(by omega);have b4:Hid (L2.map (·.z)=uB (done++[q])):=by
      have:=aq;rw[uiB (by omega),List.append_nil]at this;exact this.trans (by simp[uB])
     have bz:Hid (((d:Int)+1)=((done++[q]).length:Nat)):=by
      have:=bx;show((d:Int)+1)=((done++[q]).length:Nat);rw[List.length_append,<-this];simp
     go_wp2;go_roundw
     case rel=>exact⟨done++[q],rest,L2,HQ.1,by rw[<-bz.out],b4,I⟩
     case measure=>simp[intOf];omega
end Go.Proofs.YtimfigongapdnaaGreat
