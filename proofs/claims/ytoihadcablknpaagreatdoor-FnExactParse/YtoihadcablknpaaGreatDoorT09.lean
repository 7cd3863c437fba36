import Derived.Test.YtoihadcablknpaaGreatDoorT07
import Derived.Test.YtoihadcablknpaaGreatDoorT06
set_option linter.unusedVariables false
set_option linter.unusedSimpArgs false
set_option linter.defProp false
set_option maxHeartbeats 40000000
set_option maxRecDepth 100000
namespace Go.Proofs.YtoihadcablknpaaGreatDoor
open Go.RowKit
open Go.Proofs.Tryz
open M (OpD uh Gr uw)
def QZ{S T b m}(h:∀i,i<2*m->S i=T i):yf S b m=yf T b m:=by
 induction m with
 |zero=>rfl
 |succ m a=>rw[yf,yf,a (λi c=>h i oM),h (2*m) oM,h (2*m+1) oM]
def lf(l:LI)(i:Nat):Int:=l.getD i 0
def CX l r{i}(h:i<l.length):lf (l++r) i=lf l i:=by
 unfold lf;rw[Cx,Cx,Cr h]
def uoU l r i:lf (l++r) (l.length+i)=lf r i:=by
 unfold lf;rw[Cx,Cx,Di oM];congr 2;omega
structure RgI(M:Nat->Bool)(b:Nat)(l:LI):Prop where
 a:(b=0\/M (b-1)=false\/b=256\/M b=false)->l.length%2=0/\∀c:Nat,ve l.length (lf l) c=(decide (c<b)&&M c)
 d:¬(b=0\/M (b-1)=false\/b=256\/M b=false)->∃s:Nat,s<b/\l.length%2=1/\lf l (l.length-1)=(s:Int)/\(∀c,s<=c->c<=b->M c=true)/\∀c:Nat,ve l.length (lf l) c=(decide (c<s)&&M c)
def ulW{l r c}(a:(l++r).length / 2=l.length / 2):ve (l++r).length (lf (l++r)) c=ve l.length (lf l) c:=by
 unfold ve;rw[a];exact QZ (λi b=>CX l r oM)
def uoV{l r c s b}(h:(l++r).length / 2=l.length / 2+1)(d:lf (l++r) (2*(l.length / 2))=s)(a:lf (l++r) (2*(l.length / 2)+1)=b):ve (l++r).length (lf (l++r)) c=(ve l.length (lf l) c||(decide (s<=c)&&decide (c<=b))):=by
 unfold ve;rw[h,yf,QZ (T:=lf l) (λi e=>CX _ _ oM),d,a]
def utF M b(y:b<=256):RgI M b (rg M b):=by
 induction b with
 |zero=>exact⟨λ_=>⟨rfl,λc=>by simp[rg,ve,yf]⟩,λh=>absurd (.inl rfl) h⟩
 |succ b v =>
  have k:=v oM;have n:rg M (b+1)=(rg M b++if M b&&(b==0||!M (b-1)) then [(b:Int)] else [])++if M b&&(b==255||!M (b+1)) then [(b:Int)] else []:=(zU _ _ _).symm
  rw[n];clear n;generalize rg M b=l at *;cases g:M b with
  |false =>
   obtain⟨o,i⟩:=k.a (.inr (.inr (.inr g)));simp only[Bool.false_and,Kr,if_false,Ca];refine⟨λ_=>⟨o,λc=>?_⟩,λh=>aB (.inr (.inl g)) h⟩;rw[i c];by_cases q:c=b
   ·subst q;simp[g]
   simp[show c<b↔c<b+1 by omega]
  |true =>
   have w:∃s L,(l++if true&&(b==0||!M (b-1)) then [(b:Int)] else [])=L/\s<=b/\L.length%2=1/\lf L (L.length-1)=(s:Int)/\(∀c,s<=c->c<=b->M c=true)/\∀c:Nat,ve L.length (lf L) c=(decide (c<s)&&M c):=by
    by_cases h:b=0\/M (b-1)=false
    ·obtain⟨o,i⟩:=k.a (h.imp_right .inl);rw[Zp (by rcases h with rfl|q<;>simp[*])];exact⟨b,_,rfl,wF,sO,by simp[lf],λc m u=>by rw[show c=b by omega];exact g,λc=>(ulW sO).trans (i c)⟩
    simp only[not_or]at h;obtain⟨s,x,j⟩:=k.d (by simp[h.1,h.2,g];omega);rw[Zn (by simpa using h),Ca];exact⟨s,l,rfl,oM,j⟩
   obtain⟨s,L,e,x,j,p,r,t⟩:=w;rw[e];by_cases f:b+1=256\/M (b+1)=false
   ·rw[Zp (by
     rcases f with q|q;· simp[show b=255 by omega]
     simp[q])]
    refine⟨λ_=>⟨sO,λc=>?_⟩,λh=>aB (.inr (.inr f)) h⟩;rw[uoV (s:=s) (b:=b) sO (by rw[CX _ _ oM,show 2*(L.length / 2)=L.length-1 by omega,p]) (by rw[show 2*(L.length / 2)+1=L.length+0 by omega,uoU];rfl),t c];by_cases q:M c=true
    ·rw[Nf];simp[q];omega
    have:¬(s<=c/\c<=b):=λz=>q (r c z.1 z.2)
    simp[q];omega
   simp only[not_or]at f;rw[Zn (by simp;simpa[show b≠255 by omega] using f.2),Ca];refine⟨λh=>?_,λ_=>⟨s,oM,j,p,λc m u=>?_,t⟩⟩
   ·simp[g,f.1,f.2]at h
   by_cases q:c=b+1
   ·rw[q];simpa using f.2
   exact r c m oM
def utG M{c:Nat}(b:c<256):ve (rg M 256).length (lf (rg M 256)) c=M c:=by
 obtain⟨_,h⟩:=(utF M 256 wF).a (.inr (.inr (.inl rfl)));rw[h c];simp[b]
def uoW{M N b}(d:b<=256)(h:∀c,c<256->M c=N c):rg M b=rg N b:=by
 induction b with
 |zero=>rfl
 |succ b a =>
  rw[rg,rg,a oM,h b oM];rw[h (b-1) oM];by_cases q:b=255
  ·subst q;simp
  rw[h (b+1) oM]
def wD.m(s:wD)(n:Nat)(S:Nat->Int):wD :=
 if s.h<s.c then { s with h:=s.c,j:=λb=>ve n S (b:Int) }
 else if s.c=s.h then { s with j:=λb=>ve n S (b:Int)||s.j b } else s
def wD.u(s:wD)(n:Nat)(S:Nat->Int)(il:Nat)(I:Nat->Int):wD :=
 if s.c<il/\ve n S (I s.c)=true then { s with c:=s.c+1,f:=s.f+1 }
 else (if s.l then s else s.m n S).fail
def wD.r(s:wD):wD:={ s with st:=s.st.dropLast }
def wD.v(s:wD)(x:uw)(mO:Int):wD:=({ s with f:=x.to }).n ⟨2,s.f+1,0,0⟩ mO
def wD.k(s:wD)(k a:Int):wD:={ s with a:=s.a++[⟨k,a,s.c⟩],f:=s.f+1 }
def wD.w(s:wD)(k to mO:Int):wD:=({ s with f:=s.f+1 }).n ⟨k,to,s.c,s.a.length⟩ mO
def qB(l:List Cp):Int:=match l.getLast? with|none=>0|some f=>f.to
def wD.q(s:wD)(x:uw)(il:Nat)(I:Nat->Int)(mO:Int):wD :=
 if x.e=0 then s.u x.sl x.set il I
 else if x.e=1 then s.w 0 x.to mO
 else if x.e=4 then s.w 1 x.to mO
 else if x.e=6 then s.v x mO
 else if x.e=8 then (if s.l then s.fail else if x.to<0 then ({ s with d:=s.d+1,label:=x.f }).t 2 else ({ s with d:=s.d+1 }).v x mO)
 else if x.e=2/\s.s 0=true then { s.r with f:=x.to }
 else if x.e=3/\s.s 0=true then ({ s.r with f:=x.to }).n ⟨0,qB s.st,s.c,s.a.length⟩ mO
 else if x.e=5/\s.s 1=true then s.r.fail
 else if x.e=7/\s.s 2=true then { s.r with f:=qB s.st }
 else if x.e=9 then s.k 0 x.f
 else if x.e=10 then s.k 1 x.f
 else if x.e=11 then s.k 2 x.f
 else if x.e=12/\s.st.length=0 then s.t 0
 else s.t 4
def wD.p(s:wD)(n:Nat)(R:Nat->uw)(il:Nat)(I:Nat->Int)(fU mO:Int):wD :=
 if s.f<0\/(n:Int)<=s.f then s.t 4
 else if (s.b:Int)=fU then s.t 3
 else ({ s with b:=s.b+1 }).q (R s.f.toNat) il I mO
inductive Ends(n:Nat)(R:Nat->uw)(il:Nat)(I:Nat->Int)(fU mO:Int):wD->wD->Prop
 |over {s:wD}:s.e=true->Ends n R il I fU mO s s
 |go {s t:wD}:s.e=false->Ends n R il I fU mO (s.p n R il I fU mO) t->Ends n R il I fU mO s t
structure Good(mO:Int)(s:wD):Prop where
 c:(s.st.length:Int)<=mO
 e:s.a.length<=s.b
 b:∀f,f∈s.st->f.e≠2->f.a<=s.a.length
 k:s.st.Pairwise (λf g=>f.e≠2->g.e≠2->f.a<=g.a)
 a:∀f,f∈s.st->f.e=0\/f.e=1\/f.e=2
def Good.t{mO s}(h:Good mO s)c:Good mO (s.t c):=⟨h.c,h.e,h.b,h.k,h.a⟩
def uhS{l r f}(h:vg l=some (f,r)):f.e≠2/\∃p,l=p++f::r:=by
 induction l with
 |nil=>simp[vg]at h
 |cons x l b =>
  rw[vg]at h;by_cases e:x.e=2
  ·rw[Zp e]at h;obtain⟨a,p,rfl⟩:=b h;exact⟨a,x::p,rfl⟩
  rw[Zn e]at h;cases h;exact⟨e,[],rfl⟩
def Good.fail{mO s}(h:Good mO s):Good mO s.fail:=by
 unfold wD.fail;cases w:vg s.st.reverse with
 |none=>exact h.t 1
 |some p =>
  obtain⟨f,r⟩:=p;obtain⟨l,p,v⟩:=uhS w;have d:s.st=r.reverse++(f::p.reverse):=by
   have:=zD List.reverse v;simpa using this
  have o:f∈s.st:=by rw[d];simp
  have u:=h.b f o l;have j:=h.k;rw[d,Qk]at j;obtain⟨m,x,n⟩:=j;refine⟨?_,?_,?_,m,λg i=>h.a g (by rw[d];exact List.mem_append_left _ i)⟩
  ·have:=h.c;rw[d,wK]at this;show((r.reverse.length:Nat):Int)<=mO;omega
  ·show(s.a.take f.a).length<=s.b;have:=h.e;rw[Fy];omega
  intro g i q;show g.a<=(s.a.take f.a).length;rw[Fy,Nat.min_eq_left u];exact n g i f (Mc) q l
def Good.n{mO s}(h:Good mO s)f(d:f.e≠2->f.a=s.a.length)(o:f.e=0\/f.e=1\/f.e=2):Good mO (s.n f mO):=by
 unfold wD.n;split
 ·exact h.t 3
 rename_i r;refine⟨?_,h.e,λg c i=>?_,?_,λg c=>?_⟩
 ·show(((s.st++[f]).length:Nat):Int)<=mO;rw[wK,Bs];omega
 ·rcases Bh.1 c with q|q
  ·exact h.b g q i
  simp at q;subst q;show g.a<=s.a.length;rw[d i];exact wF
 ·show(s.st++[f]).Pairwise _;rw[Qk];refine⟨h.k,sM,λx p y j l m=>?_⟩;simp at j;subst j;rw[d m];exact h.b x p l
 rcases Bh.1 c with q|q
 ·exact h.a g q
 simp at q;subst q;exact o
def Good.r{mO s}(h:Good mO s):Good mO s.r:=by
 refine⟨?_,h.e,λg d=>h.b g (List.dropLast_subset _ d),h.k.sublist (List.dropLast_sublist _),λg d=>h.a g (List.dropLast_subset _ d)⟩;have:=h.c;show((s.st.dropLast.length:Nat):Int)<=mO;rw[Ql];omega
def Good.at{mO s}(h:Good mO s)z:Good mO { s with f:=z }:=⟨h.c,h.e,h.b,h.k,h.a⟩
def Good.m{mO s}(h:Good mO s)n S:Good mO (s.m n S):=by
 unfold wD.m;split
 ·exact⟨h.c,h.e,h.b,h.k,h.a⟩
 split
 ·exact⟨h.c,h.e,h.b,h.k,h.a⟩
 exact h
def Good.u{mO s}(h:Good mO s)n S il I:Good mO (s.u n S il I):=by
 unfold wD.u;split
 ·exact⟨h.c,h.e,h.b,h.k,h.a⟩
 refine Good.fail ?_;split
 ·exact h
 exact h.m n S
def Good.v{mO s}(h:Good mO s)x:Good mO (s.v x mO):=(h.at x.to).n _ (λq=>aB rfl q) (.inr (.inr rfl))
def Good.w{mO s}(h:Good mO s)k to(a:k=0\/k=1):Good mO (s.w k to mO):=(h.at (s.f+1)).n _ (λ_=>rfl) (by rcases a with q|q;exact .inl q;exact .inr (.inl q))
def Good.d{c:Prop}[Decidable c]{mO a b}(h:Good mO a)(e:Good mO b):Good mO (if c then a else b):=by split<;>assumption
def uoX{mO s}(h:Good mO s)(p:s.a.length<s.b)x il I:Good mO (s.q x il I mO):=by
 have i:∀k a,Good mO (s.k k a):=λk a=>by
  refine⟨h.c,?_,λg m o=>?_,h.k,h.a⟩
  ·show(s.a++[_]).length<=s.b;rw[wK,Bs];omega
  show g.a<=(s.a++[_]).length;have:=h.b g m o;rw[wK];omega
 have j:∀l,Good mO { s with d:=s.d+1,label:=l }:=λ_=>⟨h.c,h.e,h.b,h.k,h.a⟩
 exact(h.u _ _ _ _).d <| (h.w _ _ (.inl rfl)).d <| (h.w _ _ (.inr rfl)).d <| (h.v x).d <| (h.fail.d <| ((j x.f).t 2).d ((j s.label).v x)).d <| (h.r.at _).d <| ((h.r.at _).n _ (λ_=>rfl) (.inl rfl)).d <| h.r.fail.d <| (h.r.at _).d <| (i _ _).d <| (i _ _).d <| (i _ _).d <| (h.t 0).d (h.t 4)
def ulX{mO fU s n R il I}(h:Good mO s):Good mO (s.p n R il I fU mO):=by
 unfold wD.p;split;· exact h.t 4
 split;· exact h.t 3
 refine uoX (s:={ s with b:=s.b+1 }) ⟨h.c,?_,h.b,h.k,h.a⟩ ?_ _ _ _
 ·show s.a.length<=s.b+1;have:=h.e;omega
 show s.a.length<s.b+1;have:=h.e;omega
def RA{mO:Int}{s:wD}(x:uw)(il:Nat)(I:Nat->Int):(s.q x il I mO).b=s.b:=by
 have g:∀s:wD,s.fail.b=s.b:=λs=>by unfold wD.fail;split<;>rfl
 have e:∀(s:wD) f,(s.n f mO).b=s.b:=λs f=>by unfold wD.n;split<;>rfl
 have h:∀(s:wD) n S,(s.m n S).b=s.b:=λs n S=>by unfold wD.m;split<;>(try split)<;>rfl
 have d:∀{c:Prop} [Decidable c] {a b:wD},a.b=s.b->b.b=s.b->(if c then a else b).b=s.b:=by intros;split<;>assumption
 exact d (d rfl ((g _).trans (d rfl (h _ _ _)))) <| d (e _ _) <| d (e _ _) <| d (e _ _) <| d (d (g _) (d rfl (e _ _))) <| d rfl <| d (e _ _) <| d (g _) <| d rfl <| d rfl <| d rfl <| d rfl <| d rfl rfl
def RB{mO fU:Int}{s:wD}{n:Nat}{R:Nat->uw}{il:Nat}{I:Nat->Int}(d:s.e=false)(a:(s.b:Int)<=fU) :
  (((s.p n R il I fU mO).b:Int)<=fU)/\((s.p n R il I fU mO).e=true/\(s.p n R il I fU mO).b=s.b\/(s.p n R il I fU mO).b=s.b+1):=by
 unfold wD.p;by_cases q:s.f<0\/(n:Int)<=s.f
 ·rw[Zp q];exact⟨a,.inl ⟨rfl,rfl⟩⟩
 rw[Zn q];by_cases c:(s.b:Int)=fU
 ·rw[Zp c];exact⟨a,.inl ⟨rfl,rfl⟩⟩
 rw[Zn c,RA];exact⟨by show((s.b+1:Nat):Int)<=fU;omega,.inr rfl⟩
def RD{n R il I fU mO}:∀(k:Nat) (s:wD),(s.b:Int)<=fU->(fU-s.b).toNat<=k->∃t,Ends n R il I fU mO s t
 |k,s,hf,hk=>by
  cases c:s.e with
  |true=>exact⟨s,.over c⟩
  |false =>
   obtain⟨d,a⟩:=RB (n:=n) (R:=R) (il:=il) (I:=I) (mO:=mO) c hf;rcases a with⟨a,_⟩|a
   ·exact⟨_,.go c (.over a)⟩
   cases k with
   |zero=>omega
   |succ k =>
    obtain⟨t,f⟩:=RD k _ d (by rw[a];omega);exact⟨t,.go c f⟩
def Ends.p{n R il I fU mO s t}(h:Ends n R il I fU mO s t)(a:s.e=false):Ends n R il I fU mO (s.p n R il I fU mO) t:=by
 cases h with
 |over q=>rw[a]at q;cases q
 |go _ q=>exact q
def Ends.d{n R il I fU mO s t}(h:Ends n R il I fU mO s t)(a:s.e=true):t=s:=by
 cases h with
 |over q=>rfl
 |go q _=>rw[a]at q;cases q
def Pv(w:Wl)(a:Oa)(n:Nat):Prop:=∀b o j,a=some (Ad b o)->j<n->w.frozen? (Ad b (o+j))=false
def Pv.of{Q w w' a n S}(h:Pv w a n)(d:wB Q .i64 w a n S)(k:∀b,Q b->b<w.heap.size->w'.heap[b]?=w.heap[b]?):Pv w' a n:=λb o j e i=>by
 rcases d with m|⟨g,off,c,l,f⟩
 ·omega
 obtain⟨rfl,rfl⟩:b=g/\o=off:=by have:=e.symm.trans c;injection this with this;injection this with e1 e2;exact⟨e1,e2⟩
 have:=k b l (ud (f 0 oM));rw[<-h b o j e i];simp only[World.frozen?,this]
def Dw(Q:Np)(w:Wl)(b:Oa)(a:Nat)(M:Nat->Bool):Prop:=a=(rg M 256).length/\wB Q .i64 w b a (lf (rg M 256))/\Pv w b a
def Dw.q{Q w w' a c M}(h:Dw Q w a c M)(k:Bw w w'):Dw Q w' a c M:=⟨h.1,h.2.1.q k,h.2.2.of h.2.1 λb _ d=>k.block b d⟩
def Dw.g{Q Q' w a c M}(h:Dw Q w a c M)(k:∀b,Q b->Q' b):Dw Q' w a c M:=⟨h.1,h.2.1.g k,h.2.2⟩
def Dw.on{Q w w' a c M}(h:Dw Q w a c M)(k:wQ Q w w'):Dw Q w' a c M:=⟨h.1,h.2.1.on k,h.2.2.of h.2.1 λb d _=>k b d⟩
def Dw.le{Q w b a M}(h:Dw Q w b a M):a<=512:=by rw[h.1];exact CT M 256
def CY{w0 w a c l}(h:zO w0 w (Sl a l.length c) l):wB (wM w0 w) .i64 w a l.length (lf l):=by
 obtain⟨P,j,k,n⟩:=h;rcases j with⟨_,e,_⟩|⟨g,cap,e,m,p,o,f,q⟩
 ·exact .inl e
 obtain rfl:a=some (Ad g 0):=by injection e
 refine .inr ⟨g,0,rfl,k g m,λi b=>?_⟩;have d:=f i (by simp only[vB,zN];exact b);rw[zL,d];simp only[vB,Du,lf,Cx,zG b];rfl
def RE{w0 w a c l}(h:zO w0 w (Sl a l.length c) l):Pv w a l.length:=λb o j e p=>by
 obtain⟨P,f,r,k⟩:=h;rcases f with⟨_,d,_⟩|⟨g,cap,d,s,q,m,n,i⟩
 ·omega
 injection d with e1 e2 e3;subst e;injection e1 with e1;injection e1 with e1 e2;subst e1 e2;rw[zL];exact(i j oM).2
def uq7{w0 w a c M N}(h:zO w0 w (Sl a (rg M 256).length c) (rg M 256))(g:∀b,b<256->M b=N b):Dw (wM w0 w) w a (rg M 256).length N:=by
 have e:=uoW (b:=256) wF g;have d:=CY h;have f:=RE h;unfold Dw;rw[<-e];exact⟨Eq.refl _,d,f⟩
def ulY{w:Wl}{b o c j:Nat}{v u:Vl}(d:b≠c)(h:w.cell? (Ad b o)=some v):(w.setCell (Ad c j) u).cell? (Ad b o)=some v:=(zI (a:=(Ad b o)) (zJ _ d)).trans h
def ui{w:Wl}{b o j:Nat}{v u:Vl}(a:o≠j)(h:w.cell? (Ad b o)=some v):(w.setCell (Ad b j) u).cell? (Ad b o)=some v:=(ur (λe=>a e.symm)).trans h
def zY(k a:Int):OpD:=⟨k,0,λ_=>0,a⟩
def Qx(s:LI):OpD:=⟨1,s.length,lf s,0⟩
def yB(b:Int):List Int:=[b,b]
def uN(k a:Int):List OpD:=[zY k a]
def vr(s:LI):List OpD:=[Qx s]
def Bu(k:Int)(x:List OpD):List OpD:=x++[zY k 0]
def vU(k:Int)(x y:List OpD):List OpD:=x++y++[zY k 0]
def Oy:Nat->Nat
 |0=>1
 |d+1=>2*Oy d+5
section
open M (OpD uh Gr)
def GX g j:((Ad g 0):Addr).add j=(Ad g j):=by
 by_cases a:j=0
 ·subst a;simp[Addr.add]
 simp[Addr.add,a]
section
variable {α:Type} (f:α->List Value) (k:Nat) (hk:∀x,(f x).length=k)
include hk
def ki(l:List α):(l.flatMap f).length=l.length*k:=by
 induction l with
 |nil=>simp
 |cons x l a=>rw[Dj,wK,a,hk,zQ,Gx];omega
def yu:∀(l:List α) (i j:Nat) (x:α),l[i]?=some x->j<k->(l.flatMap f)[i*k+j]?=(f x)[j]?
 |[],i,j,x,h,_=>by simp at h
 |y::l,0,j,x,h,hj=>by
  simp at h;subst h;rw[Dj,Cr (by rw[hk];omega)];simp
 |y::l,i+1,j,x,h,hj=>by
  simp at h;rw[Dj,Di (by rw[hk,Gx];omega),hk,show(i+1)*k+j-k=i*k+j by rw[Gx];omega];exact yu l i j x h hj
def GY:∀(l:List α) (i j:Nat) (x y:α) (u:Vl),l[i]?=some x->j<k->f y=(f x).set j u->(l.flatMap f).set (i*k+j) u=(l.set i y).flatMap f
 |[],i,j,x,y,u,h,_,_=>by simp at h
 |z::l,0,j,x,y,u,h,hj,e=>by
  simp at h;subst h;rw[Dj,List.set_cons_zero,Dj,e,List.set_append_left _ _ (by rw[hk];omega)];simp
 |z::l,i+1,j,x,y,u,h,hj,e=>by
  simp at h;rw[Dj,List.set_cons_succ,Dj,<-GY l i j x y u h hj e,Qg _ _ (by rw[hk,Gx];omega),hk,show(i+1)*k+j-k=i*k+j by rw[Gx];omega]
end
def wC.k{Q w g n c o cs j}(h:wC Q w (Sl (Sm g 0) n c) o n cs)(d:j<cs.length)u:wC Q (w.setCell (Ad g j) u) (Sl (Sm g 0) n c) o n (cs.set j u):=by
 rcases h with⟨e,_⟩|⟨t,cap,e,s,r,p,b,m⟩
 ·cases e
 cases e;have l:(w.cell? (Ad g j)).isSome=true:=by rw[b j d,zG d];rfl
 have f:∀{i:Nat},i≠j->((Ad g j):Addr)≠(Ad g i):=λh q=>h (by injection q with _ q;exact q.symm)
 refine .inr ⟨g,c,rfl,s,by rw[Kq,r],p,λi a=>?_,λi a=>⟨?_,?_⟩⟩
 ·rw[Kq]at a;by_cases e:i=j
  ·subst e;rw[Kg l,Lz a]
  rw[Ln _ _ _ _ (f e),Ol oM];exact b i a
 ·by_cases e:i=j
  ·subst e;rw[Kg l];rfl
  rw[Ln _ _ _ _ (f e)];exact(m i a).1
 rw[Ff];exact(m i a).2
def wC.f{Q w v n a cs}(h:wC Q w v a n cs)(o:0<n):∃g c,v=Sl (Sm g 0) n c/\Q g/\n<=c/\(∀j,j<cs.length->w.cell? (Ad g j)=cs[j]?/\w.frozen? (Ad g j)=false):=by
 rcases h with⟨_,h,_⟩|⟨g,cap,e,k,m,b,d,l⟩
 ·omega
 refine⟨g,cap,e,k,b,λj i=>⟨d j i,(l j ?_).2⟩⟩;have:n*a<=cap*a:=Lm _ b;omega
def GZ{Q w a f n c cs i e}(b:prog.underlying i=some (.slice e))(h:wC Q w (Sl a n c) f n cs)(p:∀u∈cs,u.oneCell'=true):Src prog f i (Sl a n c) n cs w:=by
 rcases h with⟨e,k,l⟩|⟨g,cap,e,s,m,q,o,r⟩
 ·obtain rfl:a=none:=by injection e
  rw[k,l];exact Src.ofNil _ b c
 obtain rfl:a=some (Ad g 0):=by injection e
 refine Gj (P:=prog) _ b (Ad g 0) _ c cs m (λj u d=>?_) p;rw[GX,o j (zT.1 d).1];exact d
def wB.a{Q k w a n c S f e}(d:prog.underlying f=some (.slice e))(h:wB Q k w a n S):Src prog 1 f (Sl a n c) n (uQ k S n) w:=by
 cases a with
 |some x=>exact h.b d
 |none =>
  have g:n=0:=by
   rcases h with h|⟨_,_,e,_⟩
   ·exact h
   cases e
  subst g;exact Src.ofNil w d c
def vC{w g a b c e}(d:prog.underlying c=some (.slice e))(f:a.length=1*b)(h:∀j u,a[j]?=some u->w.cell? (Ad g j)=some u)(i:∀u∈a,u.oneCell'=true):Src prog b c (Sl (Sm g 0) 1 1) 1 a w:=by
 refine Gj (P:=prog) _ d (Ad g 0) 1 1 a f (λj u k=>?_) i;rw[GX];exact h j u k
structure OC where
 d:OpD
 a:Option Addr
 c:Nat
def Kk(x:OC):List Value:=[Iv x.d.e,Sl x.a x.d.sl x.c,Iv x.d.f]
def HA x:(Kk x).length=3:=rfl
def uT(l:List OC):List Value:=l.flatMap Kk
def Yc l:(uT l).length=l.length*3:=ki Kk 3 HA l
def Yd l:∀u∈uT l,u.oneCell'=true:=λu a=>by
 obtain⟨x,_,h⟩:=Hi.1 a;simp[Kk]at h;rcases h with rfl|rfl|rfl<;>rfl
structure Fk(P:Np)(L:Nat->Nat)(w:Wl)(v:Vl)(l:List OC):Prop where
 r:wC (λb=>P b/\L b=0) w v 3 l.length (uT l)
 h:∀i x,l[i]?=some x->wC (λb=>P b/\L b=i+1) w (Sl x.a x.d.sl x.c) 1 x.d.sl (uQ .i64 x.d.set x.d.sl)
def Fk.on{P L w w' v l}(h:Fk P L w v l)(t:wQ P w w'):Fk P L w' v l :=
 ⟨h.r.on (λb a=>t b a.1),λi x c=>(h.h i x c).on (λb a=>t b a.1)⟩
def Fk.g{P d L c w v l}(h:Fk P L w v l)(t:∀b,P b->d b/\c b=L b):Fk d c w v l :=
 ⟨uA h.r (λb a=>⟨(t b a.1).1,(t b a.1).2.trans a.2⟩),λi x e=>uA (h.h i x e) (λb a=>⟨(t b a.1).1,(t b a.1).2.trans a.2⟩)⟩
def df(D:List OpD):Nat->OpD:=λi=>D.getD i default
def Oz{D i x}(h:D[i]?=some x):df D i=x:=by unfold df;rw[Cx,h];rfl
def ZF{l:List OC}{i:Nat}{x:OC}(h:l[i]?=some x):df (l.map (·.d)) i=x.d:=Oz (by rw[Du,h];rfl)
def yE{Q k w a n c S}(h:wC Q w (Sl a n c) 1 n (uQ k S n)):wB Q k w a n S:=by
 obtain⟨d,f,e,h⟩:=h.b;cases e;exact h
def Fk.e{P L w a n c l}(h:Fk P L w (Sl a n c) l):wT P w a l.length (df (l.map (·.d))):=by
 rcases h.r with⟨_,e,_⟩|⟨g,cap,e,s,u,t,o,v⟩
 ·exact .inl e
 obtain rfl:a=some (Ad g 0):=by injection e
 refine .inr ⟨g,0,rfl,s.1,λi p=>?_⟩;have k:=zG p;have f:∀j,j<3->w.cell? (Ad g (0+i*3+j))=(Kk l[i])[j]?:=λj q=>by
  rw[show 0+i*3+j=i*3+j by omega,o _ (by rw[Yc];omega)];exact yu Kk 3 HA l i j _ k q
 rw[ZF k];exact⟨f 0 oM,⟨l[i].a,l[i].c,f 1 oM,(yE (h.h i _ k)).g (λb m=>m.1)⟩,f 2 oM⟩
def zF(P:Np)(w:Wl)(v:Vl)(D:List OpD):Prop:=∃L l,Fk P L w v l/\l.map (·.d)=D
def zF.on{P w w' v D}(h:zF P w v D)(t:wQ P w w'):zF P w' v D:=by
 obtain⟨L,l,h,e⟩:=h;exact⟨L,l,h.on t,e⟩
def zF.g{P a w v D}(h:zF P w v D)(t:∀b,P b->a b):zF a w v D:=by
 obtain⟨L,l,h,e⟩:=h;exact⟨L,l,h.g (λb c=>⟨t b c,rfl⟩),e⟩
def zF.a{P w v D}(h:zF P w v D):∃a c,v=Sl a D.length c/\D.length<=c:=by
 obtain⟨L,l,h,e⟩:=h;have d:l.length=D.length:=by rw[<-e,zN]
 rw[<-d];rcases h.r with⟨rfl,e,_⟩|⟨g,cap,rfl,j,i,b,f,k⟩
 ·exact⟨none,0,by rw[e],oM⟩
 exact⟨_,_,rfl,b⟩
def zF.e{P w a n c D}(h:zF P w (Sl a n c) D):wT P w a D.length (df D):=by
 obtain⟨L,l,h,rfl⟩:=h;rw[zN];exact h.e
end
def Tn{Q w v x a l n m cs news t j e}ty(f:vA t e a l)(i:wC Q w v a n cs)(d:Src prog a j x m news w)(s:n+m<=16777216) :
  ∃k w',(Builtin.append_ #[t,j] ty #[v,x]).run prog w=.ok k w'/\wC (λb=>Q b\/w.heap.size<=b) w' k a (n+m) (cs++news)/\wS (λb=>Q b) w w'/\w'.heap.size<=w.heap.size+1:=by
 by_cases c:v=nS->0<m
 ·exact xd ty f i d s c
 have u:v=nS:=Classical.byContradiction (λh=>c (λq=>aB q h));obtain rfl:m=0:=by
  by_cases h:m=0
  ·exact h
  exact aB (λ_=>oM) c
 have z:=d.newsLen;obtain rfl:news = []:=Hh oM;subst u;have p:n=0/\cs = []:=by
  rcases i with⟨_,h,o⟩|⟨g,cap,h,_⟩
  ·exact⟨h,o⟩
  cases h
 obtain⟨rfl,rfl⟩:=p;exact⟨_,_,Tf ty f d,.inl ⟨rfl,rfl,rfl⟩,⟨rfl,rfl,rfl,wF,λ_ _ _=>rfl,λ_ _ _=>rfl,λ_ _ y r=>aB r oM⟩,oM⟩
def Jt{ops:Array Oper}{rest:List Oper}{o:Oper}{a:Act}{f:Exit->Act->World->Prop}{w:Wl}(r:o.guard=none)(s x:Operand)(t g:TypeId)(z:o.op=.call { callee:=.builtin .append,args:=#[s,x],argTypes:=#[t,g] })
  {Q:Np} {v y:Vl} {e:TypeId} {c i n m:Nat} {cs news:List Value} (C:a.eval s=v) (E:a.eval x=y) (p:vA t e c i) (A:wC Q w v c n cs) (D:Src prog c g y m news w) (u:n+m<=16777216)
  (h:∀d w',wC (λb=>Q b\/w.heap.size<=b) w' d c (n+m) (cs++news)->wS (λb=>Q b) w w'->w'.heap.size<=w.heap.size+1->wpList prog ops f rest (a.put o.dst d) w'):wpList prog ops f (o::rest) a w:=by
 refine wpList_plain r λK q=>?_
 obtain⟨d,w',B,j,k,l⟩:=Tn o.type p A D u;unfold Oper.wp execOp;simp only[z,resolve,invoke,builtin,Fa,Gc,Gk,Hs,Er,Gl,C,E,B];exact q _ _ (h d w' j k l)
def wS.l{Q w w'}(h:wS Q w w'):wA Q w w':=⟨h.os,h.g,h.f,h.h,h.d⟩
def wA.u{w w'}(h:Kf w w'):Bw w w':=h.below wF (λ_ _ q=>q)
def Below.cV{w w'}(h:Bw w w'):Kf w w':=⟨h.os,h.tape,h.output,h.size,λb a _=>h.block b a⟩
def yt{w W W' Q}(k:Kf w W)(g:wS Q W W')(h:∀b,Q b->w.heap.size<=b):Kf w W' :=
 ⟨g.os.trans k.os,g.g.trans k.g,g.f.trans k.f,wN k.h g.h,λb a q=>(g.d b (wX a k.h) (λc=>oH (h b c))).trans (k.d b a q)⟩
def YY P w k a:wC P w (Sl none (zY k a).sl 0) 1 (zY k a).sl (uQ .i64 (zY k a).set (zY k a).sl):=.inl ⟨rfl,rfl,rfl⟩
def Fk.f{w wr W2 W4}{L L2:Nat->Nat}{v v4 l l2}(h:Fk (wM w wr) L wr v l)(G:w.heap.size<=wr.heap.size)(k:Kf wr W2)(s:∀i x,l2[i]?=some x->wC (λb=>wM wr W2 b/\L2 b=i+1) W2 (Sl x.a x.d.sl x.c) 1 x.d.sl (uQ .i64 x.d.set x.d.sl))(own:wC (λb=>(wM w wr b/\L b=0)\/W2.heap.size<=b) W4 v4 3 (l.length+l2.length) (uT l++uT l2))(n:wS (λb=>wM w wr b/\L b=0) W2 W4)(H:W4.heap.size<=W2.heap.size+1)(F:0<l2.length) :
  Fk (wM w W4) (λb=>if b<wr.heap.size then L b else if b<W2.heap.size then L2 b+l.length else 0) W4 v4 (l++l2):=by
 have I:=k.h;have J:=n.h;refine⟨?_,λi x m=>?_⟩
 ·have A:l.length+l2.length=(l++l2).length:=sM;have z:uT l++uT l2=uT (l++l2):=by simp[uT]
  rw[<-A,<-z];rcases own with⟨_,q,_⟩|⟨g,cap,e,B,t,u,o,y⟩
  ·omega
  refine .inr ⟨g,cap,e,?_,t,u,o,y⟩;have p:g<W4.heap.size:=by
   have r:0<(uT l++uT l2).length:=(by rw[wK,Yc,Yc];omega);have h:=o 0 r;rw[zG r]at h;exact ud h
  rcases B with⟨⟨C,D⟩,E⟩|q
  ·exact⟨⟨C,p⟩,by simp only[Zp D,E]⟩
  refine⟨⟨oM,p⟩,?_⟩;simp only[Zn (show ¬g<wr.heap.size by omega),Zn (show ¬g<W2.heap.size by omega)]
 by_cases e:i<l.length
 ·rw[Cr e]at m;refine uA (((h.h i x m).on (w':=W2) (λb j=>k.d b j.1.2 (λq=>q))).on (w':=W4) (λb j=>n.d b (oH j.1.2) (λq=>oG j.2 q.2))) (λb j=>⟨⟨j.1.1,by have:=j.1.2;omega⟩,?_⟩);simp only[Zp j.1.2,j.2]
 rw[Di oM]at m;refine uA ((s _ x m).on (w':=W4) (λb j=>n.d b j.1.2 (λq=>oG j.1.1 q.1.2))) (λb j=>⟨⟨by have:=j.1.1;omega,by have:=j.1.2;omega⟩,?_⟩);have:=j.1.1;simp only[Zn (show ¬b<wr.heap.size by omega),Zp j.1.2,j.2];omega
def Mk(D:List OpD)(w:Wl)(e:Ending)(w':Wl):Prop:=∃a c,e=Rt (Sl a D.length c)/\zF (wM w w') w' (Sl a D.length c) D/\Kf w w'
def GS{w W}{x:OC}(k:Kf w W)(o:wC (λb=>wM w W b) W (Sl x.a x.d.sl x.c) 1 x.d.sl (uQ .i64 x.d.set x.d.sl)){t:TypeId} :
  Mk [x.d] w (Rt (Sl (Sm W.heap.size 0) 1 1)) (W.alloc (Oc #[Iv x.d.e,Sl x.a x.d.sl x.c,Iv x.d.f] t)):=by
 have z:=k.h;have n:Kf W (W.alloc (Oc #[Iv x.d.e,Sl x.a x.d.sl x.c,Iv x.d.f] t)):=wU;have p:(W.alloc (Oc #[Iv x.d.e,Sl x.a x.d.sl x.c,Iv x.d.f] t)).heap.size=W.heap.size+1:=sM;have g:=Df W (Oc #[Iv x.d.e,Sl x.a x.d.sl x.c,Iv x.d.f] t);refine⟨_,_,rfl,⟨λb=>if b<W.heap.size then 1 else 0,[x],⟨.inr ⟨W.heap.size,1,rfl,⟨⟨z,oM⟩,sM⟩,rfl,wF,λj l=>?_,λj l=>⟨?_,?_⟩⟩,λi y m=>?_⟩,rfl⟩,k.c n⟩
 ·simp only[World.cell?,g];match j,l with
  |0,_=>rfl
  |1,_=>rfl
  |2,_=>rfl
 ·simp only[World.cell?,g];match j,l with
  |0,_=>rfl
  |1,_=>rfl
  |2,_=>rfl
 ·simp only[World.frozen?,g];rfl
 match i,m with
 |0,m =>
  cases m;refine uA (o.on (λb g=>n.d b g.2 (λq=>q))) (λb g=>⟨⟨g.1,by have:=g.2;omega⟩,by simp only[Zp g.2]⟩)
def YZ{w x b o m news t k e}ty(i:vA t e b o)(v:0<b)(a:Src prog b k x m news w)(C:m<=16777216) :
  ∃c w',(Builtin.append_ #[t,k] ty #[nS,x]).run prog w=.ok c w'/\wC (wM w w') w' c b m news/\Kf w w':=by
 by_cases s:0<m
 ·obtain⟨c,w',p,f,r,B⟩:=Tn (Q:=λ_=>False) (n:=0) (cs:=[]) ty i (.inl ⟨rfl,rfl,rfl⟩) a oM;rw[zL,Dl]at f;refine⟨c,w',p,?_,r.l⟩;rcases f with q|⟨g,cap,e,u,y,z,j,A⟩
  ·exact .inl q
  refine .inr ⟨g,cap,e,⟨?_,?_⟩,y,z,j,A⟩
  ·rcases u with q|q
   ·exact q.elim
   exact q
  have d:0<news.length:=by rw[a.newsLen];exact Nat.mul_pos s v
  have h:=j 0 d;rw[zG d]at h;exact ud h
 obtain rfl:m=0:=oM;have d:=a.newsLen;obtain rfl:news = []:=Hh oM;exact⟨_,_,Tf ty i a,.inl ⟨rfl,rfl,rfl⟩,zM⟩
def GT{ops:Array Oper}{rest:List Oper}{o:Oper}{a:Act}{d:Exit->Act->World->Prop}{w:Wl}(n:o.guard=none)(s x:Operand)(t f:TypeId)(q:o.op=.call { callee:=.builtin .append,args:=#[s,x],argTypes:=#[t,f] })
  {y:Vl} {e:TypeId} {b g m:Nat} {news:List Value} (u:a.eval s=nS) (A:a.eval x=y) (k:vA t e b g) (z:0<b) (v:Src prog b f y m news w) (p:m<=16777216)
  (h:∀c w',wC (wM w w') w' c b m news->Kf w w'->wpList prog ops d rest (a.put o.dst c) w'):wpList prog ops d (o::rest) a w:=by
 refine wpList_plain n λK l=>?_
 obtain⟨c,w',r,i,j⟩:=YZ o.type k z v p;unfold Oper.wp execOp;simp only[q,resolve,invoke,builtin,Fa,Gc,Gk,Hs,Er,Gl,u,A,r];exact l _ _ (h c w' i j)
def Nk{ops:Array Oper}{o:Oper}{a:Act}{w:Wl}{K:Act->World->Prop}{g:Exit->Act->World->Prop}{E:Prop}(q:o.guard=none)(s x:Operand)(t f:TypeId)(u:o.op=.call { callee:=.builtin .append,args:=#[s,x],argTypes:=#[t,f] })
  {Q:Np} {v y:Vl} {e:TypeId} {c i n m:Nat} {cs news:List Value} (B:a.eval s=v) (F:a.eval x=y) (p:vA t e c i) (z:wC Q w v c n cs) (C:Src prog c f y m news w) (r:n+m<=16777216)
  (h:∀d w',wC (λb=>Q b\/w.heap.size<=b) w' d c (n+m) (cs++news)->wS (λb=>Q b) w w'->w'.heap.size<=w.heap.size+1->K (a.put o.dst d) w'):if Region.wanted o (yielded ops a.tmps)=true then Oper.wp prog o a w K g else E:=by
 have D:Region.wanted o (yielded ops a.tmps)=true:=by simp[Region.wanted,q]
 rw[Zp D];obtain⟨d,w',A,j,k,l⟩:=Tn o.type p z C r;unfold Oper.wp execOp;simp only[u,resolve,invoke,builtin,Fa,Gc,Gk,Hs,Er,Gl,B,F,A];exact h d w' j k l
def kh k x w:Cs 58 #[Iv k,Iv x] w (Mk (uN k x) w):=by
 go_enter func58,ntmps58;go_wp2;go_ret;exact GS (x:=⟨zY k x,none,0⟩) zM (YY _ _ k x)
def Xy Q a c s w(h:wB Q .i64 w a s.length (lf s))(l:s.length<=1048576) :
  Cs 88 #[Sl a s.length c] w (Mk (vr s) w):=by
 have i:=ua h;generalize k:s.length=m at *;go_enter func88,ntmps88;go_wp2_with (at_builtin;refine GT rfl _ _ 23 23 rfl rfl rfl jz oM (wB.a underlying23 i) oM ?_;intro v1 W1 b f;obtain⟨d,e,rfl⟩:=uq b;have j:Hid (wC (wM w W1) W1 (Sl d m e) 1 m (uQ .i64 (lf s) m)):=b;have g:Hid (Kf w W1):=f;clear b f);go_ret;subst k;exact GS (x:=⟨Qx s,d,e⟩) g j
def ZA b w:Cs 89 #[Iv b] w λe w'=>e=Rt (Sl (Sm w.heap.size 0) 2 2)/\w'=w.alloc (Oc #[Iv b,Iv b] 3):=by
 go_enter func89,ntmps89;go_wp2;go_ret;exact⟨rfl,rfl⟩
def GU{W g x t}(h:W.heap[g]?=some (Oc #[Iv x.d.e,Sl x.a x.d.sl x.c,Iv x.d.f] t)):Src prog 3 48 (Sl (Sm g 0) 1 1) 1 (Kk x) W:=by
 refine vC underlying48 rfl (λj u b=>?_) (λu b=>Yd [x] u (by simpa[uT] using b));simp only[World.cell?,h];rw[<-b];simp[Kk]
def Xz{W g k x t}(a:W.heap[g]?=some (Oc #[Iv k,nS,Iv x] t)):Src prog 3 48 (Sl (Sm g 0) 1 1) 1 (uT [⟨zY k x,none,0⟩]) W :=
 GU (x:=⟨zY k x,none,0⟩) a
def GV(w:Wl)(D:List OpD)(v i:Vl)(wr:Wl):Prop :=
 ∃(k:Nat) (L:Nat->Nat) (l:List OC),k<=D.length/\i=Iv (k:Int)/\Fk (wM w wr) L wr v l/\l.map (·.d)=D.take k/\Kf w wr
def ZC{w wr W1 W4 D d m n L l z k A o v4 e t}(g:Fk (wM w wr) L wr (Sl z m A) l)(v:Kf w wr)(u:Kf wr W1)(H:wC (wM wr W1) W1 (Sl k d.sl o) 1 d.sl (uQ .i64 d.set d.sl))(C:l.map (·.d)=D.take m/\l.length=m/\D.length=n)(s:D[m]?=some d)(I:wC (λb=>(wM w wr b/\L b=0)\/(W1.drew.alloc (Oc e t)).heap.size<=b) W4 v4 3 (m+1) (uT l++Kk ⟨d,k,o⟩))(r:wS (λb=>wM w wr b/\L b=0) (W1.drew.alloc (Oc e t)) W4)(J:W4.heap.size<=(W1.drew.alloc (Oc e t)).heap.size+1) :
  GV w D v4 (Iv ((m+1:Nat):Int)) W4:=by
 obtain⟨E,F,N⟩:=C;have G:=(zT.1 s).1;have O:=u.h;have y:Kf wr (W1.drew.alloc (Oc e t)):=u.c ((Bz W1).c wU);have B:(W1.drew.alloc (Oc e t)).heap.size=W1.heap.size+1:=sM;refine⟨m+1,_,l++[⟨d,k,o⟩],G,rfl,Fk.f (L2:=λ_=>1) g v.h y (λi x p=>?_) (by rw[F,show uT [(⟨d,k,o⟩:OC)]=Kk ⟨d,k,o⟩ by simp[uT]];exact I) r J sM,?_,?_⟩
 ·match i,p with
  |0,p =>
   cases p;exact uA (H.on (w':=W1.drew.alloc (Oc e t)) (λb g=>Hg W1.drew _ _ g.2)) (λb g=>⟨⟨g.1,by rw[B];have:=g.2;omega⟩,rfl⟩)
 ·rw[Cl,E,Hu,s];rfl
 exact yt (v.c y) r (λb q=>q.1.1)
def Ya Q a c D w(o:wT Q w a D.length (df D))(E:jD D.length (df D)) :
  Cs 123 #[Sl a D.length c] w (Mk D w):=by
 obtain⟨hn,S⟩:=E;have U:=ua o;have aa:=ua S;generalize s:D.length=n at *;go_enter func123,ntmps123;go_wp2;go_loopw [3,4] (λv i wr=>GV w D v i wr) (λ_ i _=>n-(intOf i).toNat)
 ·exact⟨0,λ_=>0,[],wP,rfl,⟨.inl ⟨rfl,rfl,rfl⟩,λi x F=>by simp at F⟩,rfl,zM⟩
 obtain⟨m,L,l,hm,rfl,t,z,g⟩:=hrel;rw[s]at hm;have B:l.length=m:=by rw[<-zN (f:=(·.d)),z,Fy,s];omega
 by_cases P:m<n
 ·have o:=U.q g.u;rcases o with h0|⟨b,off,rfl,hq,o⟩
  ·omega
  obtain⟨c0,⟨sa,sc,c1,E⟩,c2⟩:=o m P;have HS:=ua E;have S:=aa m P;have hlt':(m:Int)<(n:Int):=oM;have p:=t.r;rw[B]at p;obtain⟨J,N,rfl⟩:=uq p;have G:=ua t;have Y:=ua g;have I:Hid (l.map (·.d)=D.take m/\l.length=m/\D.length=n):=⟨z,B,s⟩;have V:Hid (D[m]?=some (df D m)):=by
   show D[m]?=some (df D m);rw[zG oM,Oz (zG oM)]
  generalize df D m=d at *;go_wp2_with (at_builtin;refine GT rfl _ _ 23 23 rfl rfl rfl jz oM (wB.a underlying23 HS) oM ?_;intro v1 W1 C g;obtain⟨j,k,rfl⟩:=uq C;have Z:Hid (wC (wM wr W1) W1 (Sl j d.sl k) 1 d.sl (uQ .i64 d.set d.sl)):=C;have H:Hid (Kf wr W1):=g;clear C g);have A:=ua H.u;have d0:=ue c0 A;have d2:=ue c2 A;go_region_law (refine Nk rfl (.tmp 19) (.tmp 32) 48 48 rfl (v:=Sl J m N) (y:=Sl (Sm W1.heap.size 0) 1 1) (by simp[Act.eval]) (by simp[Act.eval]) Nh (Q:=λb=>wM w wr b/\L b=0) (n:=m) (cs:=uT l) (news:=Kk ⟨d,j,k⟩) (by have h:=G.r;rw[I.o.2.1]at h;exact h.on (w':=W1.drew.alloc (Oc #[Iv d.e,Sl j d.sl k,Iv d.f] 128)) (λx F=>(uf A.drew (wG W1.drew)).block x F.1.2)) (GU (W:=W1.drew.alloc (Oc #[Iv d.e,Sl j d.sl k,Iv d.f] 128)) (x:=⟨d,j,k⟩) (Df W1.drew _)) oM ?_;intro v4 W4 R O T;have X:=ua (ZC G Y H Z I V R O T);clear R O T);all_goals go_goals
  all_goals go_wp2
  all_goals go_roundw
  all_goals first|exact X|(simp[intOf];omega)
 obtain rfl:m=n:=oM;go_wp2;go_ret;have p:=t.r;rw[B,<-s]at p;obtain⟨J,N,rfl⟩:=uq p;rw[Jo oM]at z;exact⟨_,_,rfl,⟨L,l,t,z⟩,g⟩
def ZD{P:Np}{L:Nat->Nat}{W}(k a:Int):∀i x,[(⟨zY k a,none,0⟩:OC)][i]?=some x->wC (λb=>P b/\L b=i+1) W (Sl x.a x.d.sl x.c) 1 x.d.sl (uQ .i64 x.d.set x.d.sl):=λi x e=>by
 match i,e with
 |0,e=>cases e;exact .inl ⟨rfl,rfl,rfl⟩
def Yb{w wr W2 W4 L v v4 l D n}k x(h:Fk (wM w wr) L wr v l)(j:Kf w wr)(o:Kf wr W2)(g:l.map (·.d)=D)(m:l.length=n)(own:wC (λb=>(wM w wr b/\L b=0)\/W2.heap.size<=b) W4 v4 3 (n+1) (uT l++uT [⟨zY k x,none,0⟩]))(e:wS (λb=>wM w wr b/\L b=0) W2 W4)(r:W4.heap.size<=W2.heap.size+1):Mk (D++[zY k x]) w (Rt v4) W4:=by
 have i:=Fk.f (L2:=λ_=>0) h j.h o (ZD k x) (by rw[m];exact own) e r sM;have p:(D++[zY k x]).length=n+1:=by rw[<-g,<-m];simp
 obtain⟨a,c,rfl⟩:=uq own;rw[<-p]at i ⊢;exact⟨a,c,rfl,⟨_,_,i,by rw[Cl,g];rfl⟩,yt (j.c o) e (λb q=>q.1.1)⟩
def GW Q k a c D w(v:wT Q w a D.length (df D))(o:jD D.length (df D)) :
  Cs 86 #[Iv k,Sl a D.length c] w (Mk (Bu k D) w):=by
 have F:=o.1;have q:=ua v;have u:=ua o;go_enter func86,ntmps86;go_wp2_with fail;refine(Ya Q a c D w q u).mono ?_;rintro e w1 ⟨C,E,rfl,⟨L,l,y,j⟩,z⟩;have A:l.length=D.length:=by rw[<-j,zN]
 have g:=ua y;have t:=ua z;have f:Hid (l.map (·.d)=D/\l.length=D.length):=⟨j,A⟩;go_wp2_with (at_builtin;refine Jt rfl _ _ 48 48 rfl rfl rfl Nh (Q:=λb=>wM w w1 b/\L b=0) (n:=D.length) (cs:=uT l) (news:=uT [⟨zY k 0,none,0⟩]) (by have h:=g.r;rw[f.o.2]at h;exact h.on (λx B=>Hg w1 _ _ B.1.2)) (Xz (Df w1 _)) oM ?_;intro v4 W4 m i p;have s:Hid (Mk (Bu k D) w (Rt v4) W4):=Yb k 0 g t wU f.1 f.2 m i p;clear m i p);go_ret;exact s
def ZE Q Q' k a F c S D g w(T:wT Q w a D.length (df D))(G:jD D.length (df D))(U:wT Q' w F g.length (df g))(H:jD g.length (df g))(aa:0<g.length) :
  Cs 87 #[Iv k,Sl a D.length c,Sl F g.length S] w (Mk (vU k D g) w):=by
 have hn:=G.1;have hn':=H.1;have W:=ua T;have Z:=ua G;have HB':=ua U;have HS':=ua H;clear T G U H;go_enter func87,ntmps87;go_wp2_with fail;refine(Ya Q a c D w W Z).mono ?_;rintro e w1 ⟨a1,c1,rfl,⟨L,l,v,j⟩,y⟩;have z:l.length=D.length:=by rw[<-j,zN]
 have N:=ua v;have C:=ua y;have t:Hid (l.map (·.d)=D/\l.length=D.length):=⟨j,z⟩;clear v y j z;go_wp2_with fail;refine(Ya Q' F S g w1 (HB'.q C.u) HS').mono ?_;rintro e w2 ⟨a2,c2,rfl,⟨L2,l2,v,j⟩,y⟩;have z:l2.length=g.length:=by rw[<-j,zN]
 have O:=ua v;have E:Hid (Kf w1 w2):=y;have o:Hid (l2.map (·.d)=g/\l2.length=g.length):=⟨j,z⟩;clear v y j z;go_wp2_with (first|(at_builtin;refine Jt rfl _ _ 48 48 rfl rfl rfl Nh (Q:=λb=>wM w w1 b/\L b=0) (n:=D.length) (cs:=uT l) (m:=g.length) (news:=uT l2) (by have h:=N.o.r;rw[t.o.2]at h;exact h.on (λx I=>E.o.d x I.1.2 (λq=>q))) (by have h:=O.o.r;rw[o.o.2]at h;exact GZ underlying48 h (Yd _)) oM ?_;intro v3 i s p A;obtain⟨R,c3,rfl⟩:=uq s;have J:Hid (∃B,Fk (wM w i) B i (Sl R (D.length+g.length) c3) (l++l2)):=⟨_,Fk.f N.o C.o.h E.o O.o.h (by rw[t.o.2,o.o.2];exact s) p A (by rw[o.o.2];exact aa)⟩;have Y:Hid (Kf w i):=yt (C.o.c E.o) p (λb q=>q.1.1);clear s p A;obtain⟨B,V⟩:=J.o;have P:Hid (Fk (wM w i) B i (Sl R (D.length+g.length) c3) (l++l2)):=V;clear J V)|(at_builtin;refine Jt rfl _ _ 48 48 rfl rfl rfl Nh (Q:=λb=>wM w i b/\B b=0) (n:=D.length+g.length) (cs:=uT (l++l2)) (news:=uT [⟨zY k 0,none,0⟩]) (by have h:=P.o.r;rw[wK,t.o.2,o.o.2]at h;exact h.on (λx I=>Hg i _ _ I.1.2)) (Xz (Df i _)) oM ?_;intro v4 W4 s p A;have X:Hid (Mk (vU k D g) w (Rt v4) W4):=Yb k 0 P.o Y.o wU (by rw[Cl,t.o.1,o.o.1]) (by rw[wK,t.o.2,o.o.2]) s p A;clear s p A));go_ret;exact X
end Go.Proofs.YtoihadcablknpaaGreatDoor
