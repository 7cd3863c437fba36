import Derived.Test.YtoihadcablknpaaGreatDoorT24
import Derived.Test.YtoihadcablknpaaGreatDoorT31
set_option linter.unusedVariables false
set_option linter.unusedSimpArgs false
set_option linter.defProp false
set_option maxHeartbeats 40000000
set_option maxRecDepth 100000
namespace Go.Proofs.YtoihadcablknpaaGreatDoor
open Go.RowKit
open Go.Proofs.Tryz
def Ih(L:List Au)(i:Nat):Au:=L.getD i ⟨0,0,0⟩
def qG{L i}(h:i<L.length):Ih L i=L[i]:=by simp[Ih,h]
def Ii:List Au->Int
 |[]=>0
 |e::l=>(if e.e=2 then -1 else 1)+Ii l
def Sn a b:Ii (a++b)=Ii a+Ii b:=by
 induction a with
 |nil=>simp[Ii]
 |cons e l c=>simp only[Cb,Ii,c];omega
def DX L:∀k,k<=L.length->zE (Ih L) k=Ii (L.take k)
 |0,_=>rfl
 |k+1,h=>by
  rw[zE,DX L k oM,List.take_succ_eq_append_getElem oM,Sn];unfold cls;rw[qG oM];by_cases e:(L[k]' oM).e=2
  ·simp[e,Ii];omega
  simp[e,Ii]
structure So(nb p q:Nat)(L:List Au):Prop where
 le:p<=q
 c:Ii L=0
 g:∀a b,L=a++b->0<=Ii a
 f:∀e,e∈L->0<=e.e/\e.e<=2/\(p:Int)<=e.c/\e.c<=q/\(e.e=1->0<=e.f/\e.f<nb)
 k:L.Pairwise λa b=>a.c<=b.c
def Nst.a{D p q L}(h:Nst D p q L):So D p q L:=by
 induction h with
 |nil h=>exact⟨h,rfl,λa b e=>by rw[(List.append_eq_nil_iff.1 e.symm).1];exact Eg _,λe h=>(by cases h),.nil⟩
 |@one p q L k a _ G d =>
  have C:(if k=2 then (-1:Int) else 1)=1:=Zn oM;refine⟨d.le,by simp[Sn,Ii,d.c,C],λx y e=>?_,λe i=>?_,?_⟩
  ·rcases x with _|⟨z,x⟩
   ·exact Eg _
   obtain⟨rfl,F⟩:=List.cons.inj (show(⟨k,a,p⟩:Au)::(L++[⟨2,0,q⟩])=z::(x++y) by simpa using e);show 0<=(if k=2 then (-1:Int) else 1)+Ii x;rw[C];rcases List.append_eq_append_iff.1 F with⟨s,l,n⟩|⟨w,l,n⟩
   ·rw[l,Sn,d.c];rcases s with _|⟨J,s⟩
    ·simp[Ii]
    obtain⟨rfl,E⟩:=List.cons.inj n;rw[(List.append_eq_nil_iff.1 E.symm).1];simp[Ii]
   have:=d.g x w l;omega
  ·have:=d.le;rcases Bh.1 i with i|i
   ·rcases Bh.1 i with i|i
    ·obtain rfl:=Aw.1 i;exact⟨by show 0<=k;omega,by show k<=2;omega,Eg _,by show(p:Int)<=q;omega,λe=>by have e:k=1:=e;exact(G.resolve_left oM).2⟩
    exact d.f e i
   obtain rfl:=Aw.1 i;exact⟨show(0:Int)<=2 by decide,show(2:Int)<=2 by decide,by show(p:Int)<=q;omega,Eg _,λe=>aB (show(2:Int)=1 from e) dC⟩
  refine Qk.2 ⟨Qk.2 ⟨List.pairwise_singleton _ _,d.k,λx j y o=>?_⟩,List.pairwise_singleton _ _,λx j y o=>?_⟩
  ·obtain rfl:=Aw.1 j;exact(d.f y o).2.2.1
  obtain rfl:=Aw.1 o;rcases Bh.1 j with j|j
  ·obtain rfl:=Aw.1 j;have:=d.le;show(p:Int)<=q;omega
  exact(d.f x j).2.2.2.1
 |@app p q r L M _ _ d m =>
  have H:=d.le;have I:=m.le;refine⟨oM,by rw[Sn,d.c,m.c];rfl,λx y e=>?_,λe i=>?_,Qk.2 ⟨d.k,m.k,λx j y o=>?_⟩⟩
  ·rcases List.append_eq_append_iff.1 e with⟨s,l,n⟩|⟨w,l,n⟩
   ·rw[l,Sn,d.c];have:=m.g s y n;omega
   exact d.g x w l
  ·rcases Bh.1 i with i|i
   ·obtain⟨t,u,A,B,v⟩:=d.f e i;exact⟨t,u,A,oM,v⟩
   obtain⟨t,u,A,B,v⟩:=m.f e i;exact⟨t,u,oM,B,v⟩
  have:=(d.f x j).2.2.2.1;have:=(m.f y o).2.2.1;omega
def So.d{i p q L}(h:So i p q L):Whole (Ih L) L.length:=by
 refine⟨λj a=>?_,by rw[DX L _ wF,Ll];exact h.c⟩;obtain⟨b,e,l,_,_⟩:=h.f L[j] (Gb a);refine⟨by rw[qG a];exact b,by rw[qG a];exact e,by rw[qG a];omega,λm=>?_,?_⟩
 ·rw[qG a,qG oM];exact List.pairwise_iff_getElem.1 h.k _ _ oM a oM
 rw[DX L _ oM];exact h.g _ _ (List.take_append_drop _ _).symm
section
open M (OpD uh Gr)
structure kO where
 i:Int
 f:Int
 label:Int
 h:Int
 j:List Int
 d:Int
 b:Int
 a:List Bo
 text:List Int
def Ga(c a:Int):kO:=⟨c,a,0,0,[],0,0,[],[]⟩
def Kb(s:ByteArray)(i:Nat):Int:=((s.data.toList.getD i 0).toNat:Int)
def Ie(E:Nat->Bool):ByteArray:=⟨#[101,120,112,101,99,116,101,100,32]⟩++M.setT (rg E 256).length (lf (rg E 256))
inductive Tel(g:Gr)(il:Nat)(I:Nat->Int):List Bo->Nat->List Int->Prop
 |nil:Tel g il I [] 0 []
 |skip {l:List Bo} {k:Nat} {z:LI} {d:Bo}:Tel g il I l k z->d.e≠1->Tel g il I (l++[d]) k z
 |one {l:List Bo} {k:Nat} {z y:LI} {d:Bo}:Tel g il I l k z->d.e=1->k<20->V.Ans I (g.d d.f.toNat).f il (g.d d.f.toNat).nl d.a y->Tel g il I (l++[d]) (k+1) (z++y)
 |more {l:List Bo} {k:Nat} {z:LI} {d:Bo}:Tel g il I l k z->d.e=1->20<=k->Tel g il I (l++[d]) (k+1) z
def Tel.a{g il I}:∀{l:List Bo} {k:Nat} {z:LI},Tel g il I l k z->∀{j:Nat} {m:LI},Tel g il I l j m->k=j/\z=m:=by
 have f:∀{l l':List Bo} {d p:Bo},l++[d]=l'++[p]->l=l'/\d=p:=λh=>by
  have:=List.append_inj' h rfl;exact⟨this.1,by simpa using this.2⟩
 intro l k z h;induction h with
 |nil =>
  intro j m b;generalize c:([]:List Bo)=l at b;cases b with
  |nil=>exact⟨rfl,rfl⟩
  |skip|one|more=>simp at c
 |@skip l k z d h n i =>
  intro j m b;generalize c:l++[d]=l2 at b;cases b with
  |nil=>simp at c
  |skip b e=>obtain⟨rfl,rfl⟩:=f c;exact i b
  |one b e|more b e=>obtain⟨rfl,rfl⟩:=f c;exact absurd e n
 |@one l k z y d h n s r i =>
  intro j m b;generalize c:l++[d]=l2 at b;cases b with
  |nil=>simp at c
  |skip b e=>obtain⟨rfl,rfl⟩:=f c;exact absurd n e
  |one b e o q=>obtain⟨rfl,rfl⟩:=f c;obtain⟨rfl,rfl⟩:=i b;exact⟨rfl,by rw[r.a q]⟩
  |more b e o=>obtain⟨rfl,rfl⟩:=f c;obtain⟨rfl,rfl⟩:=i b;omega
 |@more l k z d h n s i =>
  intro j m b;generalize c:l++[d]=l2 at b;cases b with
  |nil=>simp at c
  |skip b e=>obtain⟨rfl,rfl⟩:=f c;exact absurd n e
  |one b e o q=>obtain⟨rfl,rfl⟩:=f c;obtain⟨rfl,rfl⟩:=i b;omega
  |more b e o=>obtain⟨rfl,rfl⟩:=f c;obtain⟨rfl,rfl⟩:=i b;exact⟨rfl,rfl⟩
def yZ(L:List Au):List Bo:=(ops (Ih L) L.length).map (Lx (Ih L) L.length)
def RS L:Ij (Ih L) L.length L.length=(yZ L).flatMap Ck:=by unfold Ij yZ;rw[List.flatMap_map]
def DB L:(yZ L).length=num (Ih L) L.length:=by unfold yZ num;rw[zN]
inductive RunR(g:Gr)(il:Nat)(I:Nat->Int)(m:wD):kO->Prop
 |out:m.i=3->RunR g il I m (Ga 3 0)
 |fail {z:LI}:m.i=1->V.Ans I (Kb (Ie m.j)) il (Ie m.j).size m.h z->RunR g il I m ⟨1,m.h,0,m.h,rg m.j 256,m.d,0,[],z⟩
 |label {z:LI}:m.i=2->V.Ans I (g.d m.label.toNat).f il (g.d m.label.toNat).nl m.c z->RunR g il I m ⟨2,m.c,m.label,m.h,rg m.j 256,m.d,0,[],z⟩
 |ok {k:Nat} {z:LI}:m.i=0->Tel g il I (yZ m.a) k z->RunR g il I m ⟨0,m.c,0,m.h,rg m.j 256,m.d,k,yZ m.a,z⟩
def Jl(fU mO:Int):Prop:=0<=fU/\fU<=50000/\0<=mO/\mO<=1000
inductive PP(t:Tx)(il:Nat)(I:Nat->Int)(fU mO:Int):kO->Prop
 |bounds:¬Jl fU mO->PP t il I fU mO (Ga 4 0)
 |text {c a:Int} {g:Gr}:Jl fU mO->Dd t c a g->c≠0->PP t il I fU mO (Ga c a)
 |check {c a:Int} {g:Gr}:Jl fU mO->Dd t 0 0 g->Ans g c a->c≠0->PP t il I fU mO (Ga c a)
 |input {g:Gr}:Jl fU mO->Dd t 0 0 g->Ans g 0 0->4000<il->PP t il I fU mO (Ga 7 4000)
 |run {g:Gr} {m:wD} {R:kO}:Jl fU mO->Dd t 0 0 g->Ans g 0 0->il<=4000->Ends (Hw g) (Kj g) il I fU mO s0 m->m.i=0\/m.i=1\/m.i=2\/m.i=3->Mj g.nb m->RunR g il I m R->PP t il I fU mO R
def qZ{t a g}(h:Dd t 0 a g):M.Valid g/\a=0:=by
 rcases h with⟨_,h,_⟩|⟨_,⟨_,_,h,_⟩|⟨d,_,h⟩⟩
 ·cases h
 ·cases h
 unfold yA at h;split at h
 ·exact aB h.1 dC
 split at h
 ·exact aB h.1 dC
 split at h
 ·exact aB h.1 dC
 obtain⟨ls,_,_,⟨c,_,b,rfl⟩|⟨_,h,_⟩⟩:=h
 ·exact⟨c,b⟩
 cases h
def RT{g b}(h:Ans g 0 b):b=0:=by
 cases h with
 |ok _ h=>cases h with
  |fine=>rfl
def jN{x}(h:M.bH x\/M.bN x):0<=x/\x<=255:=by unfold M.bH M.bN at h;omega
def qD{g}(h:M.Valid g):yg g:=by
 have m:=h.a;have f:∀{n:Nat} {B:Nat->OpD},n<=2000->(∀i,i<n->M.bE g.nr g.nb (B i))->jD n B:=λ{n B} r q=>⟨oM,λi b=>by
  obtain⟨_,_,o,p,_⟩:=q i b;by_cases k:(B i).e=1
  ·have:=DG (o k);omega
  rw[p k];omega⟩
 have r2:=h.r2;have l2:=h.l2;refine⟨oM,oM,λi b=>⟨by have:=(h.rn i b).1;omega,λj c=>jN ((h.rn i b).2.1 j c),f (OI m b) (h.rb i b).1⟩,λi b=>⟨by have:=(h.ln i b).1;omega,λj c=>jN ((h.ln i b).2.1 j c),?_⟩⟩;cases l:(g.d i).h with
 |true=>exact f (OJ m b) (h.lb i b l).1
 |false=>rw[h.lz i b l];exact⟨oM,λi b=>oM⟩
def Cj(lo:Nat)(w:Wl)(v:Vl)(R:kO):Prop:=∃(p q:Nat) (c:Oa) (xc:Nat) (na:Oa) (nc:Nat) (e:Vl),lo<=p/\p<=q/\q<=w.heap.size /\
 v=.agg #[Iv R.i,Iv R.f,Iv R.label,Iv R.h,Sl c R.j.length xc,Iv R.d,Iv R.b,Sl na R.a.length nc,e] /\
 wB (λb=>lo<=b/\b<p) .i64 w c R.j.length (lf R.j)/\Pv w c R.j.length/\wC (λb=>p<=b/\b<q) w (Sl na R.a.length nc) 5 R.a.length (R.a.flatMap Ck)/\V.Val q w.heap.size w e R.text
def RW(t:Tx)(il:Nat)(I:Nat->Int)(fU mO:Int)(w:Wl)(e:Ending)(w':Wl):Prop:=∃v R,e=Rt v/\PP t il I fU mO R/\Cj w.heap.size w' v R/\Bw w w'
def SA c a{lo w}(h:lo<=w.heap.size):Cj lo w (.agg #[Iv c,Iv a,Iv 0,Iv 0,nS,Iv 0,Iv 0,nS,nS]) (Ga c a) :=
 ⟨lo,lo,none,0,none,0,nS,wF,wF,h,rfl,.inl rfl,λ_ _ _ e=>(by cases e),.inl ⟨rfl,rfl,rfl⟩,V.Val.nil _ _ _⟩
section
variable {Q:Np} {w:Wl} {ib il ic m mc:Nat} {I M':Nat->Int} {ma:Oa} {q:Int}
def Bd(I a:Nat->Int)(il m:Nat)(q:Int)(w:Wl)(e:Ending)(w':Wl):Prop:=∃v zs,e=Rt v/\V.Ans I a il m q zs/\V.Val w.heap.size w'.heap.size w' v zs/\Bw w w'
def RV(h:wB Q .u8 w ma m M'):∃a c,(0<m->ma=some (Ad a c))/\V.Tx w a c m M':=by
 rcases h with h|⟨b,o,rfl,_,h⟩
 ·exact⟨0,0,λd=>oM,λi e=>oM⟩
 exact⟨b,o,λ_=>rfl,h⟩
def DC(k:V.Tx w ib 0 il I)(l:∀i,0<=I i/\I i<=255)(g:il<=1048576)(j:wB Q .u8 w ma m M')(n:m<=1048576) :
  Cs 15 #[Sl (Sm ib 0) il ic,Iv q,Sl ma m mc] w (Bd I M' il m q w):=by
 obtain⟨o,r,b,c⟩:=RV j;by_cases h:q<0\/(il:Int)<q
 ·refine(V.gO _ il ic q _ m mc w g h).mono ?_;rintro e w' ⟨rfl,rfl⟩;exact⟨_,[],rfl,.inl ⟨h,rfl⟩,V.Val.nil _ _ _,wI _⟩
 obtain⟨p,rfl⟩:=Me (show 0<=q by omega);refine(V.gN ib 0 il ic p I ma o r m mc M' w k l g oM b c n).mono ?_;rintro e w' ⟨v,L,C,f,rfl,b,c,d⟩;exact⟨v,_,rfl,.inr ⟨p,L,C,f,rfl,oM,b,c,rfl⟩,V.Val.a d,d.below⟩
def ul0(l:V.Tx w ib 0 il I)(n:∀i,0<=I i/\I i<=255)(s:il<=1048576)(o:il<=ic)(k:wB Q .u8 w ma m M')(r:m<=1048576)(t:V.Tab w) :
  Cs 114 #[Sl (Sm ib 0) il ic,Iv q,Sl ma m mc] w (Bd I M' il m q w):=by
 obtain⟨u,x,b,c⟩:=RV k;have g:=V.gK l n s o;by_cases j:q<0\/(il:Int)<q
 ·refine(V.gM _ il ic q I _ _ m mc w g j).mono ?_;rintro e w' ⟨rfl,h⟩;exact⟨_,[],rfl,.inl ⟨j,rfl⟩,V.Val.nil _ _ _,h⟩
 obtain⟨p,rfl⟩:=Me (show 0<=q by omega);refine(V.gL _ il ic p I _ ma u x m mc M' w g oM b c r t).mono ?_;rintro e w' ⟨v,L,C,f,rfl,b,c,d⟩;exact⟨v,_,rfl,.inr ⟨p,L,C,f,rfl,oM,b,c,rfl⟩,V.Val.a d,d.below⟩
end
end
open M (OpD uh Gr TX uH qe)
def Vk:ByteArray:=⟨#[48,49,50,51,52,53,54,55,56,57,97,98,99,100,101,102]⟩
def OE{q:Int}(h:0<=q/\q<=15):q=0\/q=1\/q=2\/q=3\/q=4\/q=5\/q=6\/q=7\/q=8\/q=9\/q=10\/q=11\/q=12\/q=13\/q=14\/q=15:=oM
def OF{q}(h:0<=q/\q<=15)w:(Instr.index 9 (.string Vk) (Iv q)).run prog w=.ok (Bv ((qe q).toNat:Int)) w:=by
 rcases OE h with h|h|h|h|h|h|h|h|h|h|h|h|h|h|h|h<;>subst h<;>kernel_rfl
def OG{b}(h:0<=b/\b<=255):IntKind.u8.wrap b=b:=by
 simp[IntKind.wrap,IntKind.bits,IntKind.signed];omega
def Vm{b}(h:0<=b/\b<=255):((UInt8.ofNat b.toNat).toNat:Int)=b:=by
 rw[UInt8.toNat_ofNat'];omega
open M (jV je setT b1)
def Hb(a Q:Np)(w:Wl):Prop:=∀b,a b->¬Q b/\b<w.heap.size
def Hb.q{a Q w w'}(h:Hb a Q w)(k:wA Q w w'):wQ a w w':=λb c=>k.d b (h b c).2 (h b c).1
def zh(w:Wl)(n:Nat)(S T:Nat->Int)(a:Vl)(wr:Wl):Prop:=∃k:Nat,k<=n/\a=Iv (k:Int)/\(∀i,i<k->S i=T i)/\Bw w wr
def Vn{n S}(h:M.bL n S){k}(o:2*k+1<n):(0<=S (2*k)/\S (2*k)<=255)/\(0<=S (2*k+1)/\S (2*k+1)<=255):=by
 obtain⟨m,g⟩:=h;obtain⟨q,rfl⟩:∃q,n=2*q:=⟨n / 2,oM⟩;have d:=(M.dW S q).2 g;have l:∀j,j<q->0<=S (2*j):=by
  intro j;induction j with
  |zero=>intro e;have:=(d 0 e).1;simp[M.bQ]at this;simpa using this
  |succ j i =>
   intro e;have a:=i oM;have b:=(d j oM).2.1;have c:=(d (j+1) e).1;unfold M.bQ at c;rw[Zn oM,show 2*(j+1)-1=2*j+1 by omega]at c;omega
 have a:=l k oM;have b:=d k oM;have b1:=b.2.1;have f:=b.2.2;exact⟨⟨a,oM⟩,⟨oM,f⟩⟩
def OH(Q:Np)(w0:Wl)(r:ByteArray)(S:Nat->Int)(n:Nat)(b a:Vl)(wr:Wl):Prop :=
 ∃(k:Nat) (s:ByteArray),2*k<=n/\a=Iv ((2*k:Nat):Int)/\s=r++b1 91++je S k/\zR Q w0 wr b s
def Hb.a{b Q w0 w v s}(h:Hb b Q w0)(g:zR Q w0 w v s):wQ b w0 w:=h.q g.m
section
open M (OpD uh Gr)
structure Rc(κ:IntKind)(w:Wl)(b o N:Nat)(f:Nat->Int):Prop where
 c:∀j,j<N->w.cell? (Ad b (o+j))=some (.int κ (f j))
 z:∀j,j<N->w.frozen? (Ad b (o+j))=false
def Rw(κ:IntKind)(A:Np)(w:Wl)(a:Oa)(N:Nat)(f:Nat->Int):Prop:=N=0\/∃b o,a=some (Ad b o)/\A b/\Rc κ w b o N f
section
variable {κ:IntKind} {A B C:Np} {w w':Wl} {a a':Oa} {b o N n c c' γ β s:Nat} {f h:Nat->Int} {P:Ew}
def Rc.m(r:Rc κ w b o N f)(γ:wA C w w')(d:¬C b):Rc κ w' b o N f :=
 ⟨λj a=>(γ.p (p:=(Ad b (o+j))) (ud (r.c j a)) d).trans (r.c j a),λj a=>(γ.n (p:=(Ad b (o+j))) (ud (r.c j a)) d).trans (r.z j a)⟩
def Rw.m(r:Rw κ A w a N f)(γ:wA C w w')(c:∀b,A b->¬C b):Rw κ A w' a N f:=r.imp id λ⟨b,o,e,q,r⟩=>⟨b,o,e,q,r.m γ (c b q)⟩
def Rw.q(r:Rw κ A w a N f)(γ:Bw w w'):Rw κ A w' a N f:=r.m (C:=λ_=>False) (wA.i γ (λ_ q _=>q)) (λ_ _=>id)
def Mw(h:Nat->Int)(β:Nat)(f:Nat->Int)(j:Nat):Int:=if j<β then h j else f j
def Rc.k(r:Rc κ w b o N (Mw h β f))(i:β<N){p:Nat}{x:Int}(d:p=o+β)(g:x=h β):Rc κ (w.setCell (Ad b p) (.int κ x)) b o N (Mw h (β+1) f):=by
 subst d g;refine⟨λj a=>?_,λj a=>?_⟩
 ·by_cases e:j=β
  ·subst e;rw[uu (r.c j a)];unfold Mw;rw[Zp oM]
  rw[ur oM,r.c j a];unfold Mw;by_cases q:j<β
  ·rw[Zp q,Zp oM]
  rw[Zn q,Zn oM]
 rw[Ff];exact r.z j a
def Rc.e(r:Rc κ w b o N (Mw h N f)):Rc κ w b o N h:=⟨λj a=>by rw[r.c j a];unfold Mw;rw[Zp a],r.z⟩
def RN(w:Wl)(n:Nat)(i:Vl)(wr:Wl):Prop:=∃γ:Nat,γ<=n/\i=Iv (γ:Int)/\Kf w wr
def Wa{g:Nat}(u:κ=.i64/\g=20\/κ=.u8/\g=8)(h:Rw κ A w a n f)(j:Rw κ B w a' n f)(C:n<=1048576)(p:∀W,Kf w W->P (Rt Bt) W):Cs g #[Sl a n c,Sl a' n c'] w P:=by
 have s:=ua p;have E:=CK n;clear p;rcases u with⟨rfl,rfl⟩|⟨rfl,rfl⟩;all_goals
  first|go_enter func20,ntmps20|go_enter func8,ntmps8
  go_wp2;go_loopw [5] (λi wr=>RN w n i wr) (λi _=>n-(intOf i).toNat)
  ·exact⟨0,wP,rfl,zM⟩
  obtain⟨γ,z,rfl,d⟩:=hrel;by_cases l:γ<n
  ·rcases h.m d (λ_ _=>id) with t|⟨b,o,rfl,_,r1⟩
   ·omega
   rcases j.m d (λ_ _=>id) with t|⟨v,F,rfl,_,r2⟩
   ·omega
   have x:=r1.c γ l;have y:=r2.c γ l;have D:=Gs (f γ);have hlt':(γ:Int)<(n:Int):=oM;have r:=ua d;clear r1 r2 d h j;go_wp2_with fail;go_quiet (fail);go_wp2;go_roundw
   ·exact⟨γ+1,oM,by go_num,r.o.c (wA.i (zB (wI _) _) (λ_ q _=>q))⟩
   simp[intOf];omega
  obtain rfl:γ=n:=oM;go_wp2;exact s.o _ d
def uoY{x y z u v:Int}(b:∀W,Kf w W->P (Rt Bt) W):Cs 53 #[.agg #[Iv x,Iv y,Iv z,Iv u,Iv v],.agg #[Iv x,Iv y,Iv z,Iv u,Iv v]] w P:=by
 have d:=ua b;have e:=Gs x;have f:=Gs y;have g:=Gs z;have h:=Gs u;have i:=Gs v;clear b;go_enter func53,ntmps53;go_wp2;exact d.o _ (wU.c wU)
def RO(κ:IntKind)(h:Nat->Int)(A:Np)(w:Wl)(b o N n q s:Nat)(f:Nat->Int)(a i:Vl)(wr:Wl):Prop:=∃β S:Nat,β<=n/\S=s+β*q/\a=Iv (S:Int)/\i=Iv (β:Int)/\wA A w wr/\Rc κ wr b o N (Mw h (β*q) f)
def RP(w:Wl)(n q s:Nat)(a i:Vl)(wr:Wl):Prop:=∃β S:Nat,β<=n/\S=s+β*q/\a=Iv (S:Int)/\i=Iv (β:Int)/\w=wr
def Hd(s j:Nat):Int:=((s+j:Nat):Int)
def Sf(s j:Nat):Int:=(((s+j)%256:Nat):Int)
def uq8(β:Nat):IntKind.u8.wrap (β:Int)=((β%256:Nat):Int):=by simp[IntKind.wrap,IntKind.signed,IntKind.bits]
def RQ(a:κ=.i64/\h=Hd s\/κ=.u8/\h=Sf s):Hid (∀β S:Nat,S=s+β->∃x:Int,x=h β/\(κ=.i64->x=S)/\(κ=.u8->IntKind.u8.wrap (S:Int)=x)):=λβ S e=>by
 subst e;rcases a with⟨rfl,rfl⟩|⟨rfl,rfl⟩
 ·exact⟨_,rfl,λ_=>rfl,λq=>by cases q⟩
 exact⟨_,rfl,(λq=>by cases q),λ_=>uq8 _⟩
def Wb{t:Nat}(u:κ=.i64/\h=Hd s/\t=22\/κ=.u8/\h=Sf s/\t=9)(Q:Rw κ A w a n f)(hn:n<=1048576)(hs:s<=16777216)(T:∀W,Rw κ A W a n h->wA A w W->P (Rt (Iv ((s+n:Nat):Int))) W):Cs t #[Sl a n c,Iv (s:Int)] w P:=by
 have d:=ua T;have V:=RQ (u.imp (λq=>⟨q.1,q.2.1⟩) λq=>⟨q.1,q.2.1⟩);rcases Q with O|⟨b,o,rfl,R,U⟩
 ·subst O;have d:=ua (d w (.inl rfl) zM);simp only[Cc]at d;rcases u with⟨_,_,rfl⟩|⟨_,_,rfl⟩;all_goals
   first|go_enter func22,ntmps22|go_enter func9,ntmps9
   go_wp2;go_loopw [1,5] (λp i wr=>p=Iv s/\i=Iv 0/\w=wr) (λ_ _ _=>0)
   ·exact⟨rfl,rfl,rfl⟩
   obtain⟨rfl,rfl,rfl⟩:=hrel;go_wp2;exact d
 have H:=ua U;have D:=ua R;rcases u with⟨g,_,rfl⟩|⟨g,_,rfl⟩;all_goals
  have G:=ua g;clear g;first|go_enter func22,ntmps22|go_enter func9,ntmps9
  go_wp2;go_loopw [1,5] (λp i wr=>RO κ h A w b o n n 1 s f p i wr) (λp i _=>n-(intOf i).toNat)
  ·exact⟨0,s,wP,sM,rfl,rfl,zM,H⟩
  obtain⟨β,S,hm,y,rfl,rfl,l,r⟩:=hrel;have g:=G.o;subst g;have I:=ua y;have X:S<=20000000:=oM;rw[Mb]at r;by_cases B:β<n
  ·obtain⟨x,F,j⟩:=V.o β S oM;have Y:=r.c β B;have Z:=r.z β B;have hlt':(β:Int)<(n:Int):=oM;have N:=ua (r.k B rfl F);have L:=ua λv=>l.c (wA.b wr (Ad b (o+β)) v D.o)
   clear r l y F;first|(have E:=j.2 rfl;clear j)|(have E:=j.1 rfl;clear j;subst E)
   go_wp2;go_roundw
   ·exact⟨β+1,S+1,oM,by have:=I.o;omega,sM,by go_num,L.o _,by rw[Mb];exact N.o⟩
   simp[intOf];omega
  obtain rfl:β=n:=oM;have C:=d wr (.inr ⟨b,o,rfl,D,r.e⟩) l;rw[show s+β=S by omega]at C;have J:=ua C;clear y C r l;go_wp2;exact J
def RR{f:Nat}(l:κ=.i64/\h=Hd s/\f=24\/κ=.u8/\h=Sf s/\f=26)(γ:Rw κ A w a n h)(I:n<=1048576)(J:s<=16777216)(v:P (Rt (Iv ((s+n:Nat):Int))) w):Cs f #[Sl a n c,Iv (s:Int)] w P:=by
 have j:=ua v;have y:=ua γ;have V:=RQ (l.imp (λq=>⟨q.1,q.2.1⟩) λq=>⟨q.1,q.2.1⟩);clear v γ;rcases l with⟨d,_,rfl⟩|⟨d,_,rfl⟩;all_goals
  have z:=ua d;clear d;first|go_enter func24,ntmps24|go_enter func26,ntmps26
  go_wp2;go_loopw [1,5] (λu i wr=>RP w n 1 s u i wr) (λu i _=>n-(intOf i).toNat)
  ·exact⟨0,s,wP,sM,rfl,rfl,rfl⟩
  obtain⟨β,S,H,g,rfl,rfl,rfl⟩:=hrel;have d:=z.o;subst d;have B:=ua g;have F:S<=20000000:=oM;by_cases D:β<n
  ·rcases y.o with E|⟨b,o,rfl,_,r⟩
   ·omega
   obtain⟨x,t,e⟩:=V.o β S oM;have C:=r.c β D;rw[<-t]at C;have G:=Gs x;have hlt':(β:Int)<(n:Int):=oM;clear r g t;first|(have p:=e.2 rfl;clear e)|(have p:=e.1 rfl;clear e;subst p)
   go_wp2;go_roundw
   ·exact⟨β+1,S+1,oM,by have:=B.o;omega,sM,by go_num,rfl⟩
   simp[intOf];omega
  obtain rfl:β=n:=oM;rw[show s+β=S by omega]at j;clear g;go_wp2;exact j
def ulZ(s:Rw .i64 A w a (n*5) f)(v:Rw .i64 B w a' (n*5) f)(hn:n<=1048576)(x:∀W,Kf w W->P (Rt Bt) W):Cs 21 #[Sl a n c,Sl a' n c'] w P:=by
 have E:=ua x;have y:=ua s;have z:=ua v;have ht:=CK n;clear x s v;go_enter func21,ntmps21;go_wp2;go_loopw [5] (λi wr=>RN w n i wr) (λi _=>n-(intOf i).toNat)
 ·exact⟨0,wP,rfl,zM⟩
 obtain⟨γ,Y,rfl,g⟩:=hrel;by_cases Z:γ<n
 ·rcases y.o.m g (λ_ _=>id) with I|⟨b,o,rfl,_,r1⟩
  ·omega
  rcases z.o.m g (λ_ _=>id) with I|⟨L,o',rfl,_,r2⟩
  ·omega
  obtain⟨ι,aa,F,h,l⟩:=Wi wr;have hlt':(γ:Int)<(n:Int):=oM;have d:∀{b o:Nat} {f:Nat->Int},Rc .i64 wr b o (n*5) f->∀j,j<5->∀t,(F t).cell? (Ad b (o+γ*5+j))=some (Iv (f (γ*5+j))):=λr j X t=>by rw[Eo];exact ue (r.c (γ*5+j) oM) (h t)
  have G:=d r1 0 oM;have N:=d r1 1 oM;have O:=d r1 2 oM;have Q:=d r1 3 oM;have R:=d r1 4 oM;have H:=d r2 0 oM;have S:=d r2 1 oM;have T:=d r2 2 oM;have U:=d r2 3 oM;have V:=d r2 4 oM;simp only[Cc]at G H;have C:Hid (∃n,wr.drew=F n):=l _ (wI wr).drew;have p:=ua h;have HF':=ua l;have D:=ua g;clear h l r1 r2 g d;go_wp2_with fail;refine vY F rR rR C.o ?_;repeat (go_big_quiet_step (first|(go_at_call 53;exact Qb (p.o _) HF'.o (jS trivial) (uoY (P:=yz True _) (λW γ=>⟨⟨true,rfl,jS trivial⟩,γ.u⟩)))))
  refine wpQuiet_nil ?_;rintro _ ⟨J,rfl⟩;go_wp2;go_roundw
  ·exact⟨γ+1,oM,by go_num,D.o.c (wA.i (p.o J) (λ_ q _=>q))⟩
  simp[intOf];omega
 obtain rfl:γ=n:=oM;go_wp2;exact E.o _ g
def uhV(J:Rw .i64 A w a (n*5) f)(Y:n<=1048576)(Z:s<=16777216)(C:∀W,Rw .i64 A W a (n*5) (Hd s)->wA A w W->P (Rt (Iv ((s+n*5:Nat):Int))) W):Cs 23 #[Sl a n c,Iv (s:Int)] w P:=by
 have g:=ua C;clear C;rcases J with R|⟨b,o,rfl,B,D⟩
 ·obtain rfl:n=0:=oM;have g:=ua (g w (.inl rfl) zM);simp only[Ge,Cc]at g;go_enter func23,ntmps23;go_wp2;go_loopw [1,5] (λl i wr=>l=Iv s/\i=Iv 0/\w=wr) (λ_ _ _=>0)
  ·exact⟨rfl,rfl,rfl⟩
  obtain⟨rfl,rfl,rfl⟩:=hrel;go_wp2;exact g
 have E:=ua D;have u:=ua B;clear D B;go_enter func23,ntmps23;go_wp2;go_loopw [1,5] (λl i wr=>RO .i64 (Hd s) A w b o (n*5) n 5 s f l i wr) (λl i _=>n-(intOf i).toNat)
 ·exact⟨0,s,wP,sM,rfl,rfl,zM,E⟩
 obtain⟨β,S,X,q,rfl,rfl,h,r⟩:=hrel;have F:=ua q;have T:S<=40000000:=oM;by_cases V:β<n
 ·have d:∀j,j<5->wr.cell? (Ad b (o+β*5+j))=some (Iv (Mw (Hd s) (β*5) f (β*5+j)))/\wr.frozen? (Ad b (o+β*5+j))=false:=λj U=>by rw[Eo];exact⟨r.c _ oM,r.z _ oM⟩
  obtain⟨I,L⟩:=d 0 oM;obtain⟨N,z1⟩:=d 1 oM;obtain⟨O,z2⟩:=d 2 oM;obtain⟨c3,z3⟩:=d 3 oM;obtain⟨Q,z4⟩:=d 4 oM;simp only[Cc]at I L;have hlt':(β:Int)<(n:Int):=oM;have v:=r.k (p:=o+β*5) oM rfl (x:=(S:Int)) (by unfold Hd;omega);have y:=v.k (p:=o+β*5+1) oM oM (x:=(S:Int)+1) (by unfold Hd;omega);have Hq:=y.k (p:=o+β*5+2) oM oM (x:=(S:Int)+1+1) (by unfold Hd;omega);have R4:=Hq.k (p:=o+β*5+3) oM oM (x:=(S:Int)+1+1+1) (by unfold Hd;omega);have R5:=ua (R4.k (p:=o+β*5+4) oM oM (x:=(S:Int)+1+1+1+1) (by unfold Hd;omega));have H:=ua h;clear r h q d v y Hq R4;go_wp2;go_roundw
  ·exact⟨β+1,S+5,oM,by have:=F.o;omega,by simp[Int.add_assoc],by go_num,by repeat with_reducible first|exact H.o|refine wA.c ?_ (zP u.o),by rw[show(β+1)*5=β*5+1+1+1+1+1 by omega];exact R5.o⟩
  simp[intOf];omega
 obtain rfl:β=n:=oM;have t:=g wr (.inr ⟨b,o,rfl,u,r.e⟩) h;rw[show s+β*5=S by omega]at t;have G:=ua t;clear q t r h;go_wp2;exact G
def uhW(l:Rw .i64 A w a (n*5) (Hd s))(D:n<=1048576)(E:s<=16777216)(p:P (Rt (Iv ((s+n*5:Nat):Int))) w):Cs 25 #[Sl a n c,Iv (s:Int)] w P:=by
 have e:=ua p;have h:=ua l;go_enter func25,ntmps25;go_wp2;go_loopw [1,5] (λg i wr=>RP w n 5 s g i wr) (λg i _=>n-(intOf i).toNat)
 ·exact⟨0,s,wP,sM,rfl,rfl,rfl⟩
 obtain⟨β,S,C,f,rfl,rfl,rfl⟩:=hrel;have γ:=ua f;have y:S<=40000000:=oM;by_cases B:β<n
 ·rcases h.o with x|⟨b,o,rfl,_,r⟩
  ·omega
  have d:∀j,j<5->w.cell? (Ad b (o+β*5+j))=some (Iv ((S:Int)+(j:Nat))):=λj z=>by rw[Eo,r.c _ oM];unfold Hd;congr 2;omega
  have q:w.cell? (Ad b (o+β*5))=some (Iv S):=(d 0 oM).trans (by congr 2);have t:w.cell? (Ad b (o+β*5+1))=some (Iv ((S:Int)+1)):=d 1 oM;have u:w.cell? (Ad b (o+β*5+2))=some (Iv ((S:Int)+1+1)):=(d 2 oM).trans (by congr 2);have c3:w.cell? (Ad b (o+β*5+3))=some (Iv ((S:Int)+1+1+1)):=(d 3 oM).trans (by congr 2);have v:w.cell? (Ad b (o+β*5+4))=some (Iv ((S:Int)+1+1+1+1)):=(d 4 oM).trans (by congr 2);have F:=Gs (S:Int);have G:=Gs ((S:Int)+1);have H:=Gs ((S:Int)+1+1);have I:=Gs ((S:Int)+1+1+1);have J:=Gs ((S:Int)+1+1+1+1);have hlt':(β:Int)<(n:Int):=oM;clear r f d;go_wp2;go_roundw
  ·exact⟨β+1,S+5,oM,by have:=γ.o;omega,by simp[Int.add_assoc],by go_num,rfl⟩
  simp[intOf];omega
 obtain rfl:β=n:=oM;rw[show s+β*5=S by omega]at e;go_wp2;exact e
structure Hq(A B C:Np)(w:Wl)(xa na ta:Oa)(e n t:Nat)(f g h:Nat->Int):Prop where
 x:Rw .i64 A w xa e f
 n:Rw .i64 B w na (n*5) g
 t:Rw .u8 C w ta t h
section
variable {D A' B' C':Np} {xa na ta xa' na' ta':Oa} {e t xc nc tc xc' nc' tc':Nat} {g:Nat->Int} {i0 i1 i2 i3 i5 i6:Int}
def Hq.m(r:Hq A B C w xa na ta e n t f g h)(γ:wA D w w')(a:∀b,A b\/B b\/C b->¬D b):Hq A B C w' xa na ta e n t f g h:=⟨r.x.m γ (λb q=>a b (.inl q)),r.n.m γ (λb q=>a b (.inr (.inl q))),r.t.m γ (λb q=>a b (.inr (.inr q)))⟩
def Hq.q(r:Hq A B C w xa na ta e n t f g h)(γ:Bw w w'):Hq A B C w' xa na ta e n t f g h:=⟨r.x.q γ,r.n.q γ,r.t.q γ⟩
def DA(r1:Hq A B C w xa na ta e n t f g h)(r2:Hq A' B' C' w xa' na' ta' e n t f g h)(J:e<=1048576)(L:n<=1048576)(N:t<=1048576)(F:∀W,Kf w W->P (Rt Bt) W) :
  Cs 7 #[.agg #[Iv i0,Iv i1,Iv i2,Iv i3,Sl xa e xc,Iv i5,Iv i6,Sl na n nc,Sl ta t tc],.agg #[Iv i0,Iv i1,Iv i2,Iv i3,Sl xa' e xc',Iv i5,Iv i6,Sl na' n nc',Sl ta' t tc']] w P:=by
 have H:=ua F;have q:=ua r1;have r:=ua r2;generalize j:(w.alloc (Oc #[Iv i0,Iv i1,Iv i2,Iv i3,Sl xa e xc,Iv i5,Iv i6,Sl na n nc,Sl ta t tc] 26)).alloc (Oc #[Iv i0,Iv i1,Iv i2,Iv i3,Sl xa' e xc',Iv i5,Iv i6,Sl na' n nc',Sl ta' t tc'] 26)=X;have p:Hid (Kf w X):=j▸wU.c wU;have s:Hid (wJ X w.heap.size #[Iv i0,Iv i1,Iv i2,Iv i3,Sl xa e xc,Iv i5,Iv i6,Sl na n nc,Sl ta t tc]):=j▸Cm.al _;have v:Hid (wJ X (w.heap.size+1) #[Iv i0,Iv i1,Iv i2,Iv i3,Sl xa' e xc',Iv i5,Iv i6,Sl na' n nc',Sl ta' t tc']):=j▸uV _ _ _ _ sM;have O:=Gs i0;have Q:=Gs i1;have R:=Gs i2;have S:=Gs i3;have T:=Gs i5;have U:=Gs i6;obtain⟨y,d,b⟩:=s.x;obtain⟨z,i,lz⟩:=v.o.x;clear F r1 r2;go_enter func7,ntmps7;go_wp2_with fail;clear y d b z i lz j;refine Wa (.inl ⟨rfl,rfl⟩) (q.o.x.m p.o (λ_ _=>id)) (r.o.x.m p.o (λ_ _=>id)) J λW1 γ=>?_
 have l:=ua (p.o.c γ);have D:=ua (s.o.on γ.u);have E:=ua (v.o.on γ.u);obtain⟨y,d,b⟩:=D.o.x;obtain⟨z,i,lz⟩:=E.o.x;clear γ;go_wp2_with fail;clear y d b z i lz;refine ulZ (q.o.n.m l.o (λ_ _=>id)) (r.o.n.m l.o (λ_ _=>id)) L λW2 γ=>?_
 have o:=ua (l.o.c γ);obtain⟨y,d,b⟩:=(D.o.on γ.u).x;obtain⟨z,i,lz⟩:=(E.o.on γ.u).x;clear γ;go_wp2_with fail;clear y d b z i lz;refine Wa (.inr ⟨rfl,rfl⟩) (q.o.t.m o.o (λ_ _=>id)) (r.o.t.m o.o (λ_ _=>id)) N λI γ=>?_
 have G:=ua (H.o I (o.o.c γ));clear γ;go_wp2;exact G.o
structure Ap(A B C:Np):Prop where
 ab:∀b,A b->¬B b
 ac:∀b,A b->¬C b
 bc:∀b,B b->¬C b
def ugb(r:Hq A B C w xa na ta e n t f g h)(ap:Ap A B C)(he:e<=1048576)(hn:n<=1048576)(ht:t<=1048576)(hs:s<=1048576)(hl:∀b,A b\/B b\/C b->b<w.heap.size)(af:∀W,Hq A B C W xa na ta e n t (Hd s) (Hd (s+e)) (Sf (s+e+n*5))->wA (λb=>A b\/B b\/C b) w W->P (Rt (Iv ((s+e+n*5+t:Nat):Int))) W) :
  Cs 10 #[.agg #[Iv i0,Iv i1,Iv i2,Iv i3,Sl xa e xc,Iv i5,Iv i6,Sl na n nc,Sl ta t tc],Iv (s:Int)] w P:=by
 have v:=ua af;generalize J:w.alloc (Oc #[Iv i0,Iv i1,Iv i2,Iv i3,Sl xa e xc,Iv i5,Iv i6,Sl na n nc,Sl ta t tc] 26)=X;have G:Hid (Kf w X):=J▸wU;have o:Hid (wJ X w.heap.size #[Iv i0,Iv i1,Iv i2,Iv i3,Sl xa e xc,Iv i5,Iv i6,Sl na n nc,Sl ta t tc]):=J▸Cm;have z:=ua (r.m G (λ_ _=>id));have i:=ua ap;have E:=ua hl;obtain⟨y,N,L⟩:=o.x;go_enter func10,ntmps10;go_wp2_with fail;refine Wb (.inl ⟨rfl,rfl,rfl⟩) z.x he oM λW1 m1 j=>?_
 have O:=ua ((G.l (λb q=>q.elim)).c (j.l (C':=λb=>A b\/B b\/C b) (λb q=>.inl q)));have R:=ua m1;have T:=ua (z.n.m j (λb q p=>i.ab b p q));have U:=ua (z.t.m j (λb q p=>i.ac b p q));have u:=ua (o.a (j.d _ o.x.2.2 (λq=>Jc _ (E _ (.inl q)))));obtain⟨y,N,L⟩:=u.x;obtain⟨H,aa⟩:=nm (s+e);have ag:H<=3000000:=oM;rw[aa]at v ⊢;go_wp2_with fail;refine uhV T hn oM λW2 m2 γ=>?_
 have Q:=ua (O.c (γ.l (C':=λb=>A b\/B b\/C b) (λb q=>.inr (.inl q))));have S:=ua m2;have Z:=ua (R.m γ (λb q p=>i.ab b q p));have V:=ua (U.m γ (λb q p=>i.bc b p q));obtain⟨y,N,L⟩:=(u.a (γ.d _ u.x.2.2 (λq=>Jc _ (E _ (.inr (.inl q)))))).x;obtain⟨I,ad⟩:=nm (H+n*5);have ah:I<=10000000:=oM;rw[ad]at v ⊢;go_wp2_with fail;refine Wb (.inr ⟨rfl,rfl,rfl⟩) V ht oM λY m3 D=>?_
 have F:=ua (v Y ⟨Z.m D (λb q p=>i.ac b q p),S.m D (λb q p=>i.bc b q p),m3⟩ (Q.c (D.l (λb q=>.inr (.inr q)))));obtain⟨S3,ae⟩:=nm (I+t);rw[ae]at F ⊢;go_wp2;exact F
def ugc(r:Hq A B C w xa na ta e n t (Hd s) (Hd (s+e)) (Sf (s+e+n*5)))(p:e<=1048576)(q:n<=1048576)(u:t<=1048576)(D:s<=1048576)(v:∀W,Kf w W->P (Rt (Iv ((s+e+n*5+t:Nat):Int))) W) :
  Cs 11 #[.agg #[Iv i0,Iv i1,Iv i2,Iv i3,Sl xa e xc,Iv i5,Iv i6,Sl na n nc,Sl ta t tc],Iv (s:Int)] w P:=by
 have j:=ua v;generalize h:w.alloc (Oc #[Iv i0,Iv i1,Iv i2,Iv i3,Sl xa e xc,Iv i5,Iv i6,Sl na n nc,Sl ta t tc] 26)=X;have d:Hid (Kf w X):=h▸wU;have i:Hid (wJ X w.heap.size #[Iv i0,Iv i1,Iv i2,Iv i3,Sl xa e xc,Iv i5,Iv i6,Sl na n nc,Sl ta t tc]):=h▸Cm;have b:=ua (r.m d (λ_ _=>id));have c:=ua (j X d);obtain⟨y,H,G⟩:=i.x;go_enter func11,ntmps11;go_wp2_with fail;refine RR (.inl ⟨rfl,rfl,rfl⟩) b.x p oM ?_;obtain⟨f,γ⟩:=nm (s+e);have E:f<=3000000:=oM;rw[γ]at b c ⊢;go_wp2_with fail;refine uhW b.n q oM ?_;obtain⟨g,l⟩:=nm (f+n*5);have F:g<=10000000:=oM;rw[l]at b c ⊢;go_wp2_with fail;refine RR (.inr ⟨rfl,rfl,rfl⟩) b.t u oM ?_;obtain⟨z,o⟩:=nm (g+t);rw[o]at c ⊢;go_wp2;exact c
end
end
end
open M (grp)
def Wf(s:ByteArray)(w:Wl)(e:Ending)(w':Wl):Prop:=e=Rt (.string s)/\Bw w w'
def urb{q}(h:0<=q/\q<=15)w:(Instr.slice 9 (.string Vk) (some (Iv q)) (some (Iv (q+1))) none).run prog w=.ok (.string (b1 (qe q))) w:=by
 rcases OE h with h|h|h|h|h|h|h|h|h|h|h|h|h|h|h|h<;>subst h<;>kernel_rfl
def Wg q{w}(h:0<=q/\q<=15):Cs 69 #[Iv q] w (Wf (b1 (qe q)) w):=by
 have a:=urb h;unfold Vk at a;have b:=h.1;have c:=h.2;go_enter func69,ntmps69;go_wp2;go_ret;exact⟨rfl,wI _⟩
def SB(w:Wl)(z:Int)(h:0<=z/\z<=255):(convert 22 9 (Sl (Sm w.heap.size 0) 1 1)).run prog (w.alloc (Oc #[Bv z] 5))=.ok (.string (b1 (UInt8.ofNat z.toNat))) (w.alloc (Oc #[Bv z] 5)):=by
 have a:wB (λ_=>True) .u8 (w.alloc (Oc #[Bv z] 5)) (Sm w.heap.size 0) 1 (λ_=>z):=.inr ⟨w.heap.size,0,rfl,trivial,λi b=>by
  obtain rfl:i=0:=oM;exact cN w.heap.size rfl rfl⟩
 rw[vX (λ_=>True) _ 1 1 (λ_=>z) _ a];have e:str 1 (λ_=>z)=b1 (UInt8.ofNat z.toNat):=by
  apply ByteArray.ext;apply Array.toList_inj.1;rw[xC];rfl
 rw[e]
def kE b w(k:0<=b/\b<=255):Cs 45 #[Iv b] w (Wf (uH b) w):=by
 have s:=k.1;have c:=k.2;have o:=ua k;have l:=SB w b o;have y:=OG o;by_cases e:b=10\/b=9\/b=13
 ·rcases e with rfl|rfl|rfl;all_goals
   go_enter func45,ntmps45;go_wp2;go_ret;exact⟨rfl,wI _⟩
 have g:¬b=10:=oM;have j:¬b=9:=oM;have h:¬b=13:=oM;have z:=beq_false_of_ne g;have B:=beq_false_of_ne j;have A:=beq_false_of_ne h;clear e;by_cases i:b=92\/b=34\/b=91\/b=93\/b=45\/b=94
 ·clear l y;rcases i with rfl|rfl|rfl|rfl|rfl|rfl;all_goals
   have l:=SB w _ k;simp only[b1,Int.reduceToNat]at l;go_enter func45,ntmps45;go_wp2;go_ret;exact⟨rfl,wG w⟩
 have N:(b==92)=false:=beq_false_of_ne oM;have I:(b==34)=false:=beq_false_of_ne oM;have L:(b==91)=false:=beq_false_of_ne oM;have O:(b==93)=false:=beq_false_of_ne oM;have J:(b==45)=false:=beq_false_of_ne oM;have P:(b==94)=false:=beq_false_of_ne oM;by_cases a:32<=b/\b<=126
 ·have f:Hid (uH b=b1 (UInt8.ofNat b.toNat)):=by
   unfold uH;rw[Zn g,Zn j,Zn h,Zn i,Zp a];rfl
  have C:=a.1;have D:=a.2;rw[<-f.o]at l;generalize uH b=u at *;go_enter func45,ntmps45;go_wp2;go_ret;exact⟨rfl,wG w⟩
 have f:Hid (uH b=⟨#[92,120]⟩++b1 (qe (b / 16))++b1 (qe (b%16))):=by
  unfold uH;rw[Zn g,Zn j,Zn h,Zn i,Zn a];rfl
 have F:b.tdiv 16=b / 16:=Int.tdiv_eq_ediv_of_nonneg s;have E:b.tmod 16=b%16:=Int.tmod_eq_emod_of_nonneg s;have G:IntKind.i64.wrap (b / 16)=b / 16:=by simp[IntKind.wrap,IntKind.bits,IntKind.signed];omega
 have H:IntKind.i64.wrap (b%16)=b%16:=by simp[IntKind.wrap,IntKind.bits,IntKind.signed];omega
 have p:Hid (0<=b / 16/\b / 16<=15):=⟨oM,oM⟩;have r:Hid (0<=b%16/\b%16<=15):=⟨oM,oM⟩;generalize b / 16=t at *;generalize b%16=v at *;by_cases x:32<=b
 ·have e8':¬b<=126:=λq=>a ⟨x,q⟩
  go_enter func45,ntmps45;go_wp2_with (first|(go_at_call 69;refine(Wg t p).mono ?_;rintro e W1 ⟨rfl,c⟩;have m:Hid (Bw w W1):=c;clear c)|(go_at_call 69;refine(Wg v r).mono ?_;rintro e W2 ⟨rfl,d⟩;have n:Hid (Bw w W2):=uf m d;clear d));go_ret;exact⟨by rw[f.o];rfl,n⟩
 clear g j h i a;go_enter func45,ntmps45;go_wp2_with (first|(go_at_call 69;refine(Wg t p).mono ?_;rintro e W1 ⟨rfl,c⟩;have m:Hid (Bw w W1):=c;clear c)|(go_at_call 69;refine(Wg v r).mono ?_;rintro e W2 ⟨rfl,d⟩;have n:Hid (Bw w W2):=uf m d;clear d));go_ret;exact⟨by rw[f.o];rfl,n⟩
def SO(S:Nat->Int)(n:Nat)(w:Wl)(b a:Vl)(wr:Wl):Prop :=
 ∃(k:Nat) (s:ByteArray),2*k<=n/\a=Iv ((2*k:Nat):Int)/\b=.string s/\s=b1 91++je S k/\Bw w wr
def uev Qs a n c S w(T:wB Qs .i64 w a n S)(E:M.bL n S):Cs 16 #[Sl a n c] w (Wf (setT n S) w):=by
 have HS:=ua T;have HC:=ua E;have hn:=M.dR E;have an:=E.1;obtain⟨X,Q⟩:=nm (decide (n=2/\S 0=0/\S 1=255));obtain⟨H,R⟩:=nm (decide (n=2/\S 0=S 1));have B:=ua Q;have J:=ua R;have N:Hid (setT n S=if X then b1 46 else if H then b1 34++uH (S 0)++b1 34 else b1 91++je S (n / 2)++b1 93):=by show _=_;rw[<-Q,<-R];unfold setT;simp only[decide_eq_true_eq]
 have O:Hid (n=2->∃g i,a=some (Ad g i)/\w.cell? (Ad g i)=some (Iv (S 0))/\w.cell? (Ad g (i+1))=some (Iv (S 1))):=λh=>by
  rcases T with q|⟨g,i,e,_,p⟩
  ·omega
  exact⟨g,i,e,p 0 oM,p 1 oM⟩
 clear T E Q R;go_enter func16,ntmps16;go_upto_region 1 with fail;go_cut [19] (λv wc=>v=.bool X/\w=wc)
 case first =>
  by_cases z:n=2
  ·subst z;obtain⟨g,i,rfl,m,C⟩:=O.o rfl;by_cases s0:S 0=0
   ·rw[s0]at m;have f1:=ua s0;clear s0;by_cases r:S 1=255
    ·rw[r]at C;have x:=ua r;clear r;go_wp2;go_meet;exact⟨by rw[<-B.o,f1.o,x.o];rfl,rfl⟩
    have f:(S 1==255)=false:=(by simp[r]);have x:=ua r;clear r;go_wp2;go_meet;exact⟨by rw[<-B.o];simp[x.o],rfl⟩
   have f:(S 0==0)=false:=(by simp[s0]);have x:=ua s0;clear s0;go_wp2;go_meet;exact⟨by rw[<-B.o];simp[x.o],rfl⟩
  have f:((n:Int)==2)=false:=sO;go_wp2;go_meet;exact⟨by rw[<-B.o];simp[z],rfl⟩
 case rest =>
 obtain⟨rfl,rfl⟩:=hcut;cases X with
 |true =>
  go_wp2;go_ret;exact⟨by rw[N.o];rfl,wI _⟩
 |false =>
 go_upto_region 3 with fail;go_cut [31] (λv wc=>v=.bool H/\Bw w wc)
 case first =>
  by_cases z:n=2
  ·subst z;obtain⟨g,i,rfl,m,C⟩:=O.o rfl;have HF:Hid (H=(S 0==S 1)):=(by show _=_;rw[<-J.o,Nf];simp);go_region;all_goals
    go_wp2;go_meet;exact⟨by rw[HF.o],(wI w).drew⟩
  have f:((n:Int)==2)=false:=sO;go_region;all_goals
   go_wp2;go_meet;exact⟨by rw[<-J.o];simp[z],(wI w).drew⟩
 case rest =>
 obtain⟨rfl,D⟩:=hcut;have o:=ua D;cases H with
 |true =>
  obtain⟨rfl,ak⟩:=of_decide_eq_true J.o;obtain⟨g,i,rfl,m,C⟩:=O.o rfl;have P:=ue m D;have t1:=M.cW (S 0);have BT:=ua (kE (S 0) wc (Vn HC.o (k:=0) oM).1);have z1:¬9223372036854775807<1+(uH (S 0)).size:=oM;have z2:¬9223372036854775807<1+(uH (S 0)).size+1:=oM;clear D m C ak;go_wp2_with fail;refine BT.o.mono ?_;rintro e W2 ⟨rfl,b⟩;have BW:=ua (uf o.o b);clear b;go_wp2;go_ret;exact⟨by rw[N.o];rfl,BW.o⟩
 |false =>
 clear D;go_wp2;go_loopw [3,4] (λov W wr=>SO S n w ov W wr) (λ_ W _=>n-(intOf W).toNat)
 ·exact⟨0,b1 91,oM,rfl,rfl,by rw[je,Oi],o.o⟩
 obtain⟨k,s,hk,rfl,rfl,U,ad⟩:=hrel;have ab:=ua U;have o:=ua ad;have ap:s.size<=2000:=by
  have h3:=M.fB S k;rw[U,Ft,M.cU];omega
 clear U ad;by_cases al:2*k<n
 rotate_left
 ·have ah:Hid (k=n / 2):=by show _=_;omega
  have z1:¬9223372036854775807<s.size+1:=oM;go_wp2;go_ret;exact⟨by rw[N.o,<-ah.o,<-ab.o];rfl,o.o⟩
 obtain⟨F,ac⟩:=Vn HC.o (k:=k) oM;rcases HS.o with q|⟨g,i,rfl,_,p⟩
 ·omega
 have Z:=ua (p (2*k) al);have C1:=ua (p (2*k+1) oM);have m:=ue Z.o o.o;have t1:=M.cW (S (2*k));have t2:=M.cW (S (2*k+1));have ai:Hid (je S (k+1)=je S k++jV (S (2*k)) (S (2*k+1))):=rfl;have am:2*k+1<n:=oM;have af:=ua (λw=>kE (S (2*k)) w F);have ag:=ua (λw=>kE (S (2*k+1)) w ac);have k0:=F.1;have k1:=F.2;clear p F ac;generalize S (2*k)=lo at *;generalize S (2*k+1)=d at *;generalize ae:2*k=kk at *;have aa:=ua ae;clear ae;have z1:¬9223372036854775807<s.size+(uH lo).size:=oM;go_wp2_with fail;refine(af.o _).mono ?_;rintro e W2 ⟨rfl,b⟩;have I:=ua (uf o.o b);have P:=ue Z.o I.o;have d1:=ue C1.o I.o;obtain⟨j,G⟩:=nm (if lo+1<d then b1 45 else ByteArray.empty);obtain⟨t,V⟩:=nm (if lo<d then uH d else ByteArray.empty);have HP:Hid (jV lo d=uH lo++j++t):=by rw[<-G,<-V];rfl
 have X1:=ua G;have X2:=ua V;have y1:j.size<=1:=by rw[<-G];split;exact Sv 1;exact wP
 generalize uH lo=u at *;clear b m G V;go_upto_region 10 with fail;go_region;go_upto_if 62 with fail;go_cut [3] (λv wc=>v=.string (s++u++j)/\W2.drew=wc)
 case first =>
  have z2:¬9223372036854775807<s.size+u.size+1:=oM;by_cases y:lo+1<d
  ·have l:Hid (j=b1 45):=(by show _=_;rw[<-X1.o,Zp y]);go_wp2;go_meet;exact⟨by rw[l.o];rfl,rfl⟩
  have l:Hid (j=ByteArray.empty):=by show _=_;rw[<-X1.o,Zn y]
  go_wp2;go_meet;exact⟨by rw[l.o,Oi],rfl⟩
 case rest =>
 obtain⟨rfl,rfl⟩:=hcut;have e0:=ue P (wI W2).drew;have e1:=ue d1 (wI W2).drew;have Y:=ua I.o.drew;have ao:(s++u++j).size<=2010:=by rw[Ft,Ft];omega
 have aj:Hid (b1 91++je S (k+1)=s++u++j++t):=by show _=_;rw[ai.o,HP.o,ab.o];simp only[Na]
 clear P d1;generalize W2.drew=W3 at *;generalize s++u++j=A at *;go_upto_region 12 with fail;go_region;have z2:¬9223372036854775807<A.size+(uH d).size:=oM;have HN:Hid (∀v wr,v=.string (A++t)->Bw w wr->SO S n w v (Iv ((kk:Int)+2)) wr):=λv wr hv b=>⟨k+1,A++t,by have:=aa.o;omega,by have:=aa.o;congr 1;omega,hv,aj.o.symm,b⟩
 by_cases y:lo<d
 ·have l:Hid (t=uH d):=by show _=_;rw[<-X2.o,Zp y]
  go_wp2_with fail;refine(ag.o _).mono ?_;rintro e W4 ⟨rfl,b⟩;have L:=ua (HN.o (.string (A++uH d)) W4 (by rw[l.o]) (uf Y.o.drew b));clear b;go_wp2;go_roundw
  ·exact L.o
  simp[intOf];omega
 have l:Hid (t=ByteArray.empty):=by show _=_;rw[<-X2.o,Zn y]
 have L:=ua (HN.o (.string A) W3.drew (by rw[l.o,Oi]) Y.o.drew);go_wp2;go_roundw
 ·exact L.o
 simp[intOf];omega
end Go.Proofs.YtoihadcablknpaaGreatDoor
