import Derived.Test.YtoihadcablknpaaGreatDoorT12
set_option linter.unusedVariables false
set_option linter.unusedSimpArgs false
set_option linter.defProp false
set_option maxHeartbeats 40000000
set_option maxRecDepth 100000
namespace Go.Proofs.YtoihadcablknpaaGreatDoor
open Go.RowKit
open Go.Proofs.Tryz
open Go.RowKit Go.Shelf
attribute [local go_sem] Oper.semAt_some
def Uo(S:Nat->Int)(p:Nat):Array Value:=#[Iv (S (2*p)),Iv (S (2*p+1))]
def AB(a b n:Nat)(k:Nat):Prop:=k=a\/(k=b/\0<n)
def P5(w W:Wl)(n a b:Nat)(J:Nat->World->Prop)(i:Vl)(wr:Wl):Prop :=
 ∃p:Nat,2*p<=n+1/\i=Iv (2*(p:Int)+1)/\J p wr/\W.heap.size<=wr.heap.size/\∀k,AB a b n k->wr.heap[k]?=w.heap[k]?
def LN f a n c S b m w(hn:n<=1048576)(y:w.cell? (Ad f 0)=some (Sl a n c))(Q:0<n->a=some (Ad b m))(O:∀i,i<n->w.cell? (Ad b (m+i))=some (Iv (S i))) :
  Nv prog 252 #[.pointer (Sm f 0)] (0:Nat) (λp=>2*p+1<n) (λp=>p+1) (Uo S) (AB f b n) w:=by
 intro l C J A W af D F aa G ab P B;have ac:Fence.wide.depth=none:=rfl;have o:=ua O;have T:=ud y;have ae:prog.follows .mixedOrders=true:=rR;refine callsIn_of_wp func252 rfl trivial ?_ rfl;simp only[ntmps252,Fg,zQ,Ef,Nat.reduceAdd,Nat.reduceSub,Fu,Fv,Fx,Fw,Dl,Cb]
 gi_wp2
 gi_loopw [3] (λi wr=>P5 w W n f b J i wr) (λi _=>n+2-(intOf i).toNat)
 ·exact⟨0,oM,rfl,B,wF,D⟩
 obtain⟨p,hp,rfl,v,V,g⟩:=hrel;have ag:=(zI (a:=(Ad f 0)) (g f (.inl rfl))).trans y;by_cases s:2*p+1<n
 ·obtain rfl:=Q oM;have c0:=(zI (a:=(Ad b (m+2*p))) (g b (.inr ⟨rfl,oM⟩))).trans (o (2*p) oM);have c1:=(zI (a:=(Ad b (m+(2*p+1)))) (g b (.inr ⟨rfl,oM⟩))).trans (o (2*p+1) s);have hlt':2*(p:Int)+1<(n:Int):=oM;have ad:2*(p:Int)<(n:Int):=oM;have t1:(2*(p:Int)).toNat=2*p:=oM;have t2:(2*(p:Int)+1).toNat=2*p+1:=oM;have w1:IntKind.i64.wrap (2*(p:Int)+1-1)=2*(p:Int):=by rw[show 2*(p:Int)+1-1=2*(p:Int) by omega,IntKind.wrap_i64];omega
  have w2:IntKind.i64.wrap (2*(p:Int))=2*(p:Int):=by rw[IntKind.wrap_i64];omega
  have z1:(0:Int)<=2*(p:Int):=oM;have z2:(0:Int)<=2*(p:Int)+1:=oM;have I:=G p wr wr.drew v (wI wr).drew;obtain⟨fn,tmps,Y,Z,X,N⟩:=P p _ I s;unfold Uo at X;have hR':=N.mono (R':=λe z=>∃bv:Bool,e=Rt (.bool bv)/\wA C wr.drew z/\((bv=true/\J (p+1) z)\/(bv=false/\A p z))) (by
   rintro e z (⟨rfl,q,r⟩|⟨rfl,q,r⟩)
   ·exact⟨true,rfl,r,.inl ⟨rfl,q⟩⟩
   exact⟨false,rfl,r,.inr ⟨rfl,q⟩⟩)
  have u:=ua g
  gi_wp2
  gi_region_with_o (refine hR'.mono ?_;rintro e z ⟨bv,rfl,t⟩)
  all_goals
   obtain⟨x,t⟩:=t;rcases t with⟨rfl,H⟩|⟨rfl,L⟩
   ·have E:∀k,AB f b n k->z.heap[k]?=w.heap[k]?:=λk j=>by
     have R:k<wr.heap.size:=by
      have e:=u k j;have:w.heap[k]?.isSome:=by
       rcases j with rfl|⟨rfl,U⟩
       ·simp[T]
       have:=ud (o 0 U);simp[this]
      rw[<-e]at this;rcases Nat.lt_or_ge k wr.heap.size with h|h
      ·exact h
      simp[h]at this
     exact(x.d k R (F k j)).trans (u k j)
    gi_wp2
    go_roundw
    ·exact⟨p+1,oM,by go_num,H,wN V x.h,E⟩
    simp[intOf];omega
   gi_wp2
   refine wL (results_none rfl _ _ _) rfl ?_;exact⟨⟨_,rfl⟩,.inr ⟨p,s,L⟩⟩
 have hlt':¬2*(p:Int)+1<(n:Int):=oM
 gi_wp2
 go_end0;exact⟨⟨_,rfl⟩,.inl ⟨p,oM,v⟩⟩
def LO{a}{n}{c}{w} :
  CallsIn Fence.wide 0 prog 228 #[Sl a n c] w λe w'=>e=Rt (.func (.func 252) #[] #[.pointer (Sm w.heap.size 0)])/\w'=w.alloc (Oc #[Sl a n c] 23):=by
 refine callsIn_of_wp func228 rfl trivial ?_ rfl;simp only[ntmps228,Fg,zQ,Ef,Nat.reduceAdd,Nat.reduceSub,Fu,Fv,Fx,Fw,Dl,Cb]
 gi_wp2
 go_ret;exact⟨rfl,rfl⟩
structure HoOwn(w:Wl)(y:Nat)(b:Int)(x:Wl):Prop where
 j:x.cell? (Ad y 0)=some (Iv b)
 g:∃v,x.cell? (Ad (y+1) 0)=some v
 d:x.frozen? (Ad (y+1) 0)=false
 u:Below y w x
 h:y+3<=x.heap.size
def HoOwn.below{w y b x z}(h:HoOwn w y b x)(a:Below (y+3) x z):HoOwn w y b z :=
 ⟨(a.cell (p:=(Ad y 0)) (by show y<y+3;omega)).trans h.j,h.g.imp λ_ c=>(a.cell (p:=⟨y+1,0,none⟩) (by show y+1<y+3;omega)).trans c,
  (a.frozen (p:=(Ad (y+1) 0)) (by show y+1<y+3;omega)).trans h.d,h.u.trans (a.mono oM),wN h.h a.size⟩
def HoOwn.c{w y b x}(h:HoOwn w y b x)r:Below y w (x.setCell (Ad (y+1) 0) (.bool r))/\y+3<=(x.setCell (Ad (y+1) 0) (.bool r)).heap.size/\(x.setCell (Ad (y+1) 0) (.bool r)).cell? (Ad (y+1) 0)=some (.bool r) :=
 ⟨h.u.setCell (p:=⟨y+1,0,none⟩) (by show y<=y+1;omega) _,by simpa[World.setCell] using h.h,by obtain⟨v,a⟩:=h.g;exact Kg (by rw[a];rfl)⟩
def P6(w:Wl)(n:Nat)(S:Nat->Int)(b:Int)(p:Nat)(x:Wl):Prop:=HoOwn w w.heap.size b x/\2*p<=n+1/\yf S b p=false
def P7(w:Wl)(n:Nat)(S:Nat->Int)(b:Int)(a:Code)(p:Nat)(x:Wl):Prop :=
 a=.ret/\Bw w x/\w.heap.size+3<=x.heap.size/\x.cell? (Ad (w.heap.size+1) 0)=some Bt/\2*p+1<n/\yf S b (p+1)=true
def LP a n c S b C F w(hn:n<=1048576)(ha:0<n->a=some (Ad C F))(Y:∀i,i<n->w.cell? (Ad C (F+i))=some (Iv (S i))) :
  CallsIn Fence.wide 0 prog 203 #[Sl a n c,Iv b] w (Od (ve n S b) w):=by
 have al:Fence.wide.depth=none:=rfl;have HS:=ua Y;have ab:0<n->C<w.heap.size:=λh=>ud (Y 0 h)
 refine callsIn_of_wp_marks func203 rfl trivial ?_ rfl;simp only[ntmps203,Fg,zQ,Ef,Nat.reduceAdd,Nat.reduceSub,Fu,Fv,Fx,Fw,Dl,Cb]
 gi_wp2_with (refine⟨trivial,?_⟩;gi_at_call 228;refine(LO).mono ?_;rintro e w' ⟨rfl,rfl⟩)
 obtain⟨t,l⟩:=nm (((w.alloc (Oc #[Value.int IntKind.i64 b] 3)).alloc (Oc #[Bf] 4)).alloc (Oc #[Sl a n c] 23));have av:t.heap.size=w.heap.size+3:=by rw[<-l];simp
 have X:Bw w t:=by rw[<-l];exact(((wI w).alloc wF _).alloc sM _).alloc sO _
 have Z:=vo w (Iv b) 3;have U:=vo (w.alloc (Oc #[Value.int IntKind.i64 b] 3)) Bf 4;have ac:=xj (w.alloc (Oc #[Value.int IntKind.i64 b] 3)) Bf 4;have V:=vo ((w.alloc (Oc #[Value.int IntKind.i64 b] 3)).alloc (Oc #[Bf] 4)) (Sl a n c) 23;simp only[zV]at Z U ac V;rw[l]at V;have ak:HoOwn w w.heap.size b t:=⟨by rw[<-l];exact uv _ (uv _ Z),⟨_,by rw[<-l];exact uv _ U⟩,by rw[<-l];exact vH U ac,X,oM⟩;have sW:∀i,i<n->t.cell? (Ad C (F+i))=some (Iv (S i)):=λi hi=>ue (HS i hi) X
 rw[l];refine xm (gf:=252) (lb:=#[.pointer (Sm (w.heap.size+1+1) 0)]) rfl (enters_of func252 rR rfl)
  (LN (w.heap.size+1+1) a n c S C F t hn V ha sW) (λ_=>rfl) ?hD (λk=>k=w.heap.size+1) ?hCD ?hCw
  (P6 w n S b) (P7 w n S b) ?hI ?hIx ?h0 ?round ?done ?stop
 case hD =>
  rintro k (rfl|⟨rfl,R⟩)
  ·omega
  have:=ab R;omega
 case hCD =>
  rintro k (rfl|⟨rfl,R⟩) P
  ·omega
  have:=ab R;omega
 case hCw =>
  rintro k hk P;omega
 case hI =>
  rintro s A E ⟨f,T⟩ y;exact⟨f.below (y.mono oM),T⟩
 case hIx =>
  rintro cd s A E ⟨rfl,O,hs,P,T⟩ y;exact⟨rfl,O.trans (y.mono oM),wN hs y.size,(y.cell (p:=(Ad (w.heap.size+1) 0)) (by show w.heap.size+1<_;omega)).trans P,T⟩
 case h0=>exact⟨ak,oM,rfl⟩
 case round =>
  intro l' p x ao ap ad af;unfold Uo
  gi_wp2
  refine⟨zM,ad,?_⟩;rintro x2 an aq ⟨f,aa,o⟩;obtain⟨rv,k1⟩:=f.g;have k2:=f.d;have k3:=f.j;have W:=ua o;have G:=ua f;obtain⟨u,hu⟩:=nm (S (2*p));obtain⟨v,hv⟩:=nm (S (2*p+1));have H:=ua hu;have I:=ua hv;rw[hu,hv];have ag:=af;by_cases q1:u<=b
  ·by_cases q2:b<=v
   ·have r:Hid (yf S b (p+1)=true):=by show _=_;rw[yf,H.o,I.o];simp[q1,q2]
    gi_wp2
    obtain⟨J,L,N⟩:=G.c true;exact⟨zP rfl,rfl,J,L,N,ag,r⟩
   have r:Hid (yf S b (p+1)=false):=by show _=_;rw[yf,H.o,I.o,W.o];simp[q2]
   gi_wp2
   exact⟨zM,G,oM,r⟩
  have r:Hid (yf S b (p+1)=false):=by show _=_;rw[yf,H.o,I.o,W.o];simp[q1]
  gi_wp2
  exact⟨zM,G,oM,r⟩
 case done =>
  rintro d p x hd ai ⟨f,aa,o⟩ D;obtain⟨rv,k1⟩:=f.g;have k2:=f.d;have hnm':=ai
  gi_wp2
  have ah:d≠w.heap.size+1:=oM;have hK':(x.setCell (Ad (w.heap.size+1) 0) Bf).heap[d]?=some (.deferred (some [])):=(Ly x (Ad (w.heap.size+1) 0) _ d ah).trans D;refine⟨sM,.inl ⟨_,_,rfl,run_takeDeferred hK',?_⟩⟩;obtain⟨J,L,N⟩:=f.c false;have z:=vI (B:=w.heap.size+3) (x.setCell (Ad (w.heap.size+1) 0) Bf) (.deferred none) (d:=d) oM L;have Q:=(z.cell (p:=(Ad (w.heap.size+1) 0)) (by show w.heap.size+1<_;omega)).trans N;have hF:ve n S b=false:=by
   unfold ve;cases q:yf S b (n / 2) with
   |false=>rfl
   |true=>rw[qY S b oM q]at o;cases o
  refine⟨Bf,?_,by rw[hF],J.trans (z.mono oM)⟩;simp[results,f203,go_sem,Q]
 case stop =>
  rintro d cd p x hd au ⟨rfl,O,aj,ae,aa,o⟩ D
  gi_wp2
  refine⟨sM,.inl ⟨_,_,rfl,run_takeDeferred D,?_⟩⟩;have am:=(Cq.1 D).1;have z:=vI (B:=w.heap.size+3) x (.deferred none) (d:=d) oM aj;have Q:=(z.cell (p:=(Ad (w.heap.size+1) 0)) (by show w.heap.size+1<_;omega)).trans ae;have hT:ve n S b=true:=qY S b (m:=p+1) oM o;refine⟨Bt,?_,by rw[hT],O.trans (z.mono oM)⟩;simp[results,f203,go_sem,Q]
def P8 Q a n c S b w(e:n<=1048576)(d:wB Q .i64 w a n S) :
  Cs 203 #[Sl a n c,Iv b] w (Od (ve n S b) w):=by
 rcases d with rfl|⟨f,g,rfl,j,d⟩
 ·exact callsIn_wide.1 (LP a 0 c S b 0 0 w e (λh=>aB h oM) (λi h=>aB h oM))
 exact callsIn_wide.1 (LP _ n c S b f g w e (λ_=>rfl) d)
attribute [local go_sem] Oper.semAt_some
def km(f:Nat->Int):Nat->Int
 |0=>0
 |n+1=>km f n+f n
def KO f g n:km (λj=>f j+g j) n=km f n+km g n:=by
 induction n with
 |zero=>rfl
 |succ n a=>rw[km,km,km,a];omega
def KP n:km (λ_=>0) n=0:=by
 induction n with
 |zero=>rfl
 |succ n a=>rw[km,a];rfl
def KQ c k n:km (λj=>if j=k then c else 0) n=if k<n then c else 0:=by
 induction n with
 |zero=>simp[km]
 |succ n d =>
  rw[km,d];by_cases h:k<n
  ·have a:k<n+1:=oM;have b:¬n=k:=oM;simp[h,a,b]
  by_cases e:n=k
  ·subst e;simp
  have a:¬k<n+1:=oM;simp[h,a,e]
def La(S:Nat->Int)(p:Nat):Int:=max (S (2*p)) 0
def Lb(S:Nat->Int)(p:Nat):Int:=min (S (2*p+1)) 255
def Jx(S:Nat->Int)(p i:Nat):Int :=
 if La S p<=Lb S p then (if i=(La S p).toNat then 1 else 0)+(if i=(Lb S p).toNat+1 then -1 else 0) else 0
def Dh(S:Nat->Int):Nat->Nat->Int
 |0,_=>0
 |p+1,i=>Dh S p i+Jx S p i
def qO S:∀(p i:Nat),-(p:Int)<=Dh S p i/\Dh S p i<=p
 |0,i=>⟨Eg _,Eg _⟩
 |p+1,i=>by
  have:=qO S p i;rw[Dh];unfold Jx;split
  ·split<;>split<;>omega
  omega
def M4 S p b(g:b<256):km (Jx S p) (b+1)=if S (2*p)<=b/\(b:Int)<=S (2*p+1) then 1 else 0:=by
 by_cases h:La S p<=Lb S p
 ·have e:Jx S p=λi=>(if i=(La S p).toNat then 1 else 0)+(if i=(Lb S p).toNat+1 then -1 else 0):=by funext i;unfold Jx;rw[Zp h]
  rw[e,KO,KQ,KQ];have d:0<=La S p:=Int.le_max_right _ _;have f:Lb S p<=255:=Int.min_le_right _ _;unfold La Lb at *;by_cases a:S (2*p)<=b
  ·by_cases c:(b:Int)<=S (2*p+1)
   ·rw[Zp oM,Zn oM,Zp ⟨a,c⟩];rfl
   rw[Zp oM,Zp oM,Zn (λq=>c q.2)];rfl
  rw[Zn oM,Zn oM,Zn (λq=>a q.1)];rfl
 have e:Jx S p=λi=>0:=by funext i;unfold Jx;rw[Zn h]
 rw[e,KP];unfold La Lb at h;rw[Zn];rintro⟨a,c⟩;omega
def KR S b(a:b<256):∀p:Nat,0<=km (Dh S p) (b+1)/\(0<km (Dh S p) (b+1)↔yf S (b:Int) p=true)
 |0=>by
  have e:Dh S 0=λ_=>0:=rfl
  rw[e,KP];simp[yf]
 |p+1=>by
  obtain⟨d,c⟩:=KR S b a p;have e:Dh S (p+1)=λi=>Dh S p i+Jx S p i:=rfl
  rw[e,KO,M4 S p b a,yf];by_cases q:S (2*p)<=b/\(b:Int)<=S (2*p+1)
  ·rw[Zp q];refine⟨oM,λ_=>?_,λ_=>oM⟩;simp[q.1,q.2]
  rw[Zn q];refine⟨oM,?_⟩;rw[Int.add_zero,c];have:(decide (S (2*p)<=(b:Int))&&decide ((b:Int)<=S (2*p+1)))=false:=by
   simp only[Bool.and_eq_false_iff,decide_eq_false_iff_not];by_cases r:S (2*p)<=(b:Int)
   ·exact .inr (λr2=>q ⟨r,r2⟩)
   exact .inl r
  rw[this,Nd]
def KS S p:∀n:Nat,-((n*p:Nat):Int)<=km (Dh S p) n/\km (Dh S p) n<=((n*p:Nat):Int)
 |0=>by simp[km]
 |n+1=>by
  have a:=KS S p n;have b:=qO S p n;rw[km,Gx,Nat.one_mul,Mf];omega
def M5:(prog.info? 378).map (λi=>(i.zero,i.size))=some (some (.agg (madeCells #[Iv 0] 257)),257):=rR
structure Et(w:Wl)(f:Nat->Int)(x:Wl):Prop where
 y:x.rowIs w.heap.size 378 257 (λi=>Iv (f i))
 u:Bw w x
 h:w.heap.size+2<=x.heap.size
def Et.below{w f x z}(h:Et w f x)(a:Below (w.heap.size+2) x z):Et w f z :=
 ⟨h.y.of_block (a.block _ oM),h.u.trans (a.mono oM),wN h.h a.size⟩
def M6(w:Wl)(n:Nat)(S:Nat->Int)(p:Nat)(x:Wl):Prop:=Et w (Dh S p) x/\2*p<=n
structure Zm(mb o:Nat)(N:Nat->Bool)(w:Wl)(e:Ending)(w':Wl):Prop where
 k:∃v,e=Rt v
 f:∀i,i<256->w'.cell? (Ad mb (o+i))=some (.bool (N i))
 a:∀j,(j<o\/o+256<=j)->w'.cell? (Ad mb j)=w.cell? (Ad mb j)
 c:∀j,w'.frozen? (Ad mb j)=w.frozen? (Ad mb j)
 l:Kept (λx=>x=mb) w w'
structure Ns(w:Wl)(mb o k:Nat)(S:Nat->Int)(p:Nat)(M:Nat->Bool)(d:Nat)(x:Wl):Prop where
 y:x.rowIs w.heap.size 378 257 (λi=>Iv (Dh S p i))
 f:∀i,i<256->x.cell? (Ad mb (o+i))=some (.bool (if i<k then yf S (i:Int) p||M i else M i))
 a:∀j,(j<o\/o+256<=j)->x.cell? (Ad mb j)=w.cell? (Ad mb j)
 c:∀j,x.frozen? (Ad mb j)=w.frozen? (Ad mb j)
 l:Kept (λx=>x=mb) w x
 h:w.heap.size+2<=x.heap.size
 dd:x.heap[d]?=some (.deferred (some []))
def M7(w:Wl)(b o:Nat)(S:Nat->Int)(p:Nat)(M:Nat->Bool)(d:Nat)(c a:Vl)(x:Wl):Prop :=
 ∃k:Nat,k<=256/\a=Iv (k:Int)/\c=Iv (km (Dh S p) k)/\Ns w b o k S p M d x
def Ns.b{w m o k S p M d x}(h:Ns w m o k S p M d x)(z:k<256)(A:m<w.heap.size)(v:w.heap.size+2<=d)(t:yf S (k:Int) p=true):Ns w m o (k+1) S p M d (x.setCell (Ad m (o+k)) Bt):=by
 refine⟨h.y.of_block (zJ _ (by show w.heap.size≠m;omega)),λi n=>?_,λj u=>?_,λj=>Jd.trans (h.c j),⟨h.l.os,h.l.g,h.l.f,by rw[uj];exact h.l.h,λb s r=>(zJ _ r).trans (h.l.d b s r)⟩,by rw[uj];exact h.h,(zJ _ (by show d≠m;omega)).trans h.dd⟩
 ·by_cases e:i=k
  ·subst e;rw[uu (h.f i n),Zp oM,t];rfl
  rw[ur oM,h.f i n];by_cases q:i<k
  ·rw[Zp q,Zp oM]
  rw[Zn q,Zn oM]
 rw[ur oM];exact h.a j u
def Ns.no{w b o k S p M d x}(h:Ns w b o k S p M d x)(m:k<256)(g:yf S (k:Int) p=false):Ns w b o (k+1) S p M d x:=by
 refine⟨h.y,λi j=>?_,h.a,h.c,h.l,h.h,h.dd⟩;rw[h.f i j];by_cases e:i=k
 ·subst e;rw[Zn oM,Zp oM,g,Bool.false_or]
 by_cases q:i<k
 ·rw[Zp q,Zp oM]
 rw[Zn q,Zn oM]
def KT(r o:Nat)(M:Nat->Bool)(a:Oa)(n c:Nat)(S:Nat->Int)(sb so:Nat)(w:Wl)(hn:n<=1048576)(ha:0<n->a=some (Ad sb so))(hS:∀i,i<n->w.cell? (Ad sb (so+i))=some (Iv (S i)))
  (hM:∀i,i<256->w.cell? (Ad r (o+i))=some (.bool (M i))) (hF:∀j,w.frozen? (Ad r j)=false) :
  CallsIn Fence.wide 0 prog 229 #[.pointer (Sm r o),Sl a n c] w (Zm r o (λi=>ve n S (i:Int)||M i) w):=by
 have az:Fence.wide.depth=none:=rfl;have HS:=ua hS;have HM:=ua hM;have HF:=ua hF;have am:0<n->sb<w.heap.size:=λh=>ud (hS 0 h)
 have ag:=ud (hM 0 oM);have hz:=(zero_of_info (P:=prog) M5).1;refine callsIn_of_wp_marks func229 rfl trivial ?_ rfl;simp only[ntmps229,Fg,zQ,Ef,Nat.reduceAdd,Nat.reduceSub,Fu,Fv,Fx,Fw,Dl,Cb]
 gi_wp2_with (refine⟨trivial,?_⟩;gi_at_call 228;refine(LO).mono ?_;rintro e w' ⟨rfl,rfl⟩)
 obtain⟨X,Y⟩:=nm ((w.alloc (Oc (madeCells #[Value.int IntKind.i64 0] 257) 378)).alloc (Oc #[Sl a n c] 23));have a8:X.heap.size=w.heap.size+2:=by rw[<-Y];simp
 have aj:Bw w X:=by rw[<-Y];exact Bn w
 have hm:=Ja w (Iv 0) 257 378;have hx:=vo (w.alloc (Oc (madeCells #[Value.int IntKind.i64 0] 257) 378)) (Sl a n c) 23;simp only[zV]at hx;rw[Y]at hx;have ax:Et w (Dh S 0) X:=⟨by rw[<-Y];exact(hm.alloc _).congr (λi H=>rfl),aj,oM⟩;have sW:∀i,i<n->X.cell? (Ad sb (so+i))=some (Iv (S i)):=λi H=>ue (HS i H) aj
 rw[Y];refine xm (gf:=252) (lb:=#[.pointer (Sm (w.heap.size+1) 0)]) rfl (enters_of func252 rR rfl)
  (LN (w.heap.size+1) a n c S sb so X hn hx ha sW) (λ_=>rfl) ?hD (λk=>k=w.heap.size) ?hCD ?hCw
  (M6 w n S) (λ_ _ _=>False) ?hI ?hIx ?h0 ?round ?done ?stop
 case hD =>
  rintro k (rfl|⟨rfl,af⟩)
  ·omega
  have:=am af;omega
 case hCD =>
  rintro k (rfl|⟨rfl,af⟩) hc
  ·omega
  have:=am af;omega
 case hCw =>
  rintro k hk hc;omega
 case hI =>
  rintro s A E ⟨T,hp⟩ ak;exact⟨T.below (ak.mono oM),hp⟩
 case hIx =>
  rintro cd s A E h ak;exact h
 case h0=>exact⟨ax,oM⟩
 case round =>
  intro l' p x a2 a3 ao R;unfold Uo
  gi_wp2
  refine⟨zM,ao,?_⟩;rintro D a1 a6 ⟨T,aq⟩;have a4:=R;have t:=ua T;have hb:=qO S p;have hp':p<=1048576:=oM;have aa:=T.y;obtain⟨u,O⟩:=nm (S (2*p));obtain⟨v,U⟩:=nm (S (2*p+1));have J:Hid (La S p=max u 0):=by show _=_;rw[<-O];rfl
  have I:Hid (Lb S p=min v 255):=by show _=_;rw[<-U];rfl
  rw[O,U];have av:∀(l h:Nat),La S p=l->Lb S p=h->l<=h->h<=255 ->
    ∃z F:Int,D.cell? (Ad w.heap.size l)=some (Iv z)/\D.cell? (Ad w.heap.size (h+1))=some (Iv F)/\-1048576<=z/\z<=1048576/\-1048576<=F/\F<=1048576 /\
     D.frozen? (Ad w.heap.size l)=false/\D.frozen? (Ad w.heap.size (h+1))=false /\
     Et w (Dh S (p+1)) ((D.setCell (Ad w.heap.size l) (Iv (z+1))).setCell (Ad w.heap.size (h+1)) (Iv (F-1))):=λl h e1 e2 al h5=>by
   refine⟨Dh S p l,Dh S p (h+1),aa.cell oM,aa.cell oM,by have:=hb l;omega,by have:=hb l;omega,by have:=hb (h+1);omega,by have:=hb (h+1);omega,aa.frozen _,aa.frozen _,?_⟩;have hd:∀i,Dh S (p+1) i=Dh S p i+((if i=l then 1 else 0)+(if i=h+1 then -1 else 0)):=λi=>by
    show Dh S p i+Jx S p i=_;unfold Jx;rw[Zp (by rw[e1,e2];omega),e1,e2];rfl
   refine⟨((aa.set l _).set (h+1) _).congr (λi H=>?_),(t.u.setCell (p:=(Ad w.heap.size l)) wF _).setCell (p:=(Ad w.heap.size (h+1))) wF _,by rw[uj,uj];exact t.h⟩;rw[hd i];by_cases q1:i=h+1
   ·have V:¬i=l:=oM;subst q1;simp[V];omega
   by_cases V:i=l
   ·subst V;simp[q1]
   simp[q1,V]
  have aw:¬La S p<=Lb S p->Et w (Dh S (p+1)) D:=λal=>by
   have e:Dh S (p+1)=Dh S p:=by
    funext i;show Dh S p i+Jx S p i=_;unfold Jx;rw[Zn al,Int.add_zero]
   rw[e];exact t
  have ac:=av;have ae:=ua aw;have lx:w.heap.size<D.heap.size:=oH t.h;have ab:Hid (∀(l h:Nat) (v1 v2:Vl),wA (λk=>k=w.heap.size) D ((D.setCell (Ad w.heap.size l) v1).setCell (Ad w.heap.size h) v2)):=λl h v1 v2=>(wA.b (C:=λk=>k=w.heap.size) _ (Ad w.heap.size l) _ rfl).c (wA.b (C:=λk=>k=w.heap.size) _ (Ad w.heap.size h) _ rfl)
  by_cases q1:u<0
  ·by_cases V:255<v
   ·skip
    obtain⟨z,F,k1,k2,r1,r2,r3,r4,g1,g2,N⟩:=ac 0 255 (by rw[J.o];omega) (by rw[I.o];omega) oM oM;have m:=ua N
    gi_wp2
    exact⟨ab _ _ _ _,m,oM⟩
   by_cases q3:0<=v
   ·obtain⟨h,rfl⟩:=Me q3;have q4:(h:Int)+1<257:=oM;have q5:((h:Int)+1).toNat=h+1:=oM;obtain⟨z,F,k1,k2,r1,r2,r3,r4,g1,g2,N⟩:=ac 0 h (by rw[J.o];omega) (by rw[I.o];omega) oM oM;have m:=ua N
    gi_wp2
    exact⟨ab _ _ _ _,m,oM⟩
   skip
   have m:=ae (by rw[J.o,I.o];omega)
   gi_wp2
   exact⟨zM,m,oM⟩
  obtain⟨l,rfl⟩:=Me (show 0<=u by omega);by_cases V:255<v
  ·by_cases q3:l<=255
   ·have q4:(l:Int)<=255:=oM;have q5:(l:Int)<257:=oM;obtain⟨z,F,k1,k2,r1,r2,r3,r4,g1,g2,N⟩:=ac l 255 (by rw[J.o];omega) (by rw[I.o];omega) oM oM;have m:=ua N
    gi_wp2
    exact⟨ab _ _ _ _,m,oM⟩
   have q4:¬(l:Int)<=255:=oM;have m:=ae (by rw[J.o,I.o];omega)
   gi_wp2
   exact⟨zM,m,oM⟩
  by_cases q3:(l:Int)<=v
  ·obtain⟨h,rfl⟩:=Me (show 0<=v by omega);have q4:(h:Int)+1<257:=oM;have q5:((h:Int)+1).toNat=h+1:=oM;have q6:(l:Int)<257:=oM;have ne:l≠h+1:=oM;obtain⟨z,F,k1,k2,r1,r2,r3,r4,g1,g2,N⟩:=ac l h (by rw[J.o];omega) (by rw[I.o];omega) oM oM;have m:=ua N
   gi_wp2
   exact⟨ab _ _ _ _,m,oM⟩
  skip
  have m:=ae (by rw[J.o,I.o];omega)
  gi_wp2
  exact⟨zM,m,oM⟩
 case done =>
  rintro d p x hd au ⟨T,aq⟩ hK;have hnm':=au;have a0:=(Cq.1 hK).1;have t:=ua T;have hp':p<=1048576:=oM
  gi_wp2
  gi_loopw [7,31] (λov iv wr=>M7 w r o S p M d ov iv wr) (λov iv _=>256-(intOf iv).toNat)
  ·exact⟨0,oM,rfl,rfl,⟨t.y,λi H=>by rw[Zn oM];exact ue (HM i H) t.u,λj hj=>t.u.cell (p:=(Ad r j)) ag,λj=>t.u.frozen (p:=(Ad r j)) ag,Kept.of t.u,t.h,hK⟩⟩
  obtain⟨k,hk,rfl,rfl,Q⟩:=hrel;have L:=ua Q;by_cases R:k<256
  ·have c0:=Q.y.cell (i:=k) oM;have lx:=ud c0;have z:=Q.f k R;have f1:=(Q.c (o+k)).trans (HF _);have b1:=qO S p k;have b2:=KS S p k;have b4:((k*p:Nat):Int)<=268435456:=by
    have:k*p<=256*1048576:=Nat.mul_le_mul oM hp';omega
   have ah:=KR S k R p;have lm:=ud z;have hlt':(k:Int)<256:=oM;have a5:(k:Int)<257:=oM;obtain⟨u,O⟩:=nm (km (Dh S p) k);obtain⟨v,U⟩:=nm (Dh S p k);have HE:Hid (km (Dh S p) (k+1)=u+v):=(by show km (Dh S p) k+Dh S p k=_;rw[O,U]);rw[HE.o]at ah;rw[O]at b2;rw[U]at b1 c0;rw[O];have v1 : -1048576<=v:=oM;have v2:v<=1048576:=oM;have u1 : -268435456<=u:=oM;have u2:u<=268435456:=oM;have ai:=ua ah.2;clear O U b1 b2 b4 ah Q;by_cases an:0<u+v
   ·have W:=L.b R ag oM (ai.1 an);have ad:=ua W;clear W
    gi_wp2
    go_roundw
    ·exact⟨k+1,oM,by go_num,by rw[HE.o],ad⟩
    simp[intOf];omega
   have W:=L.no R (by cases q:yf S (k:Int) p with|false=>rfl|true=>exact aB (ai.2 q) an);have ad:=ua W;clear W
   gi_wp2
   go_roundw
   ·exact⟨k+1,oM,by go_num,by rw[HE.o],ad⟩
   simp[intOf];omega
  obtain rfl:k=256:=oM;have ap:=Q.dd
  gi_wp2
  refine⟨sM,.inl ⟨_,_,rfl,run_takeDeferred ap,?_⟩⟩;have G:=vI (B:=w.heap.size+2) wr (.deferred none) (d:=d) oM L.h;have hq:∀i:Nat,ve n S (i:Int)=yf S (i:Int) p:=λi=>by
   unfold ve;rw[show n / 2=p by omega]
  refine⟨_,results_none rfl _ _ _,⟨_,rfl⟩,λi H=>?_,λj hj=>(G.cell (p:=(Ad r j)) (by show r<_;omega)).trans (L.a j hj),λj=>(G.frozen (p:=(Ad r j)) (by show r<_;omega)).trans (L.c j),?_⟩
  ·rw[G.cell (p:=(Ad r (o+i))) (by show r<_;omega),L.o.f i H,Zp H,hq i]
  have Z:=L.l;exact⟨G.os.trans Z.os,G.tape.trans Z.g,G.output.trans Z.f,wN Z.h G.size,λx hx hn=>(G.block x oM).trans (Z.d x hx hn)⟩
 case stop =>
  rintro d cd p x hd a7 h hK;exact h.elim
def KU(Q:Np)(b o:Nat){M:Nat->Bool}(a:Oa)(n c:Nat)(S:Nat->Int){w:Wl}(g:n<=1048576)(d:wB Q .i64 w a n S)(f:∀i,i<256->w.cell? (Ad b (o+i))=some (.bool (M i)))(e:∀j,w.frozen? (Ad b j)=false) :
  Cs 229 #[.pointer (Sm b o),Sl a n c] w (Zm b o (λi=>ve n S (i:Int)||M i) w):=by
 rcases d with rfl|⟨k,l,rfl,m,d⟩
 ·exact callsIn_wide.1 (KT b o M a 0 c S 0 0 w g (λh=>aB h oM) (λi h=>aB h oM) f e)
 exact callsIn_wide.1 (KT b o M _ n c S k l w g (λ_=>rfl) d f e)
open M (OpD uh Gr)
def utV:(prog.info? 54).map (λi=>(i.zero,i.size,i.bytes))=some (some (.agg #[Iv 0,Iv 0,Iv 0,Iv 0,Iv 0]),5,40):=rR
def TG:vA 24 54 5 40:=⟨underlying24,⟨_,utV,rfl⟩,oM⟩
def Wq(d:Bo):Obj:=.cells #[Iv d.e,Iv d.f,Iv d.a,Iv d.to,Iv d.b] 54
def TH(w:Wl)(d:Bo):Src prog 5 24 (Sl (Sm w.heap.size 0) 1 1) 1 (Ck d) (w.alloc (Wq d)):=by
 obtain⟨z,_,_⟩:=(um w #[Iv d.e,Iv d.f,Iv d.a,Iv d.to,Iv d.b] 54).x;refine Gj (P:=prog) _ underlying24 (Ad w.heap.size 0) 1 1 (Ck d) rfl (λj u c=>?_) (λu c=>?_)
 ·have e':((Ad w.heap.size 0):Addr).add j=(Ad w.heap.size j):=by
   by_cases g:j=0
   ·subst g;simp[Addr.add]
   simp[Addr.add,g]
  rw[e',<-c];exact(z j).trans (by simp[Ck])
 simp[Ck]at c;rcases c with rfl|rfl|rfl|rfl|rfl<;>rfl
structure Ey(w0 wr:Wl)(v:Vl)(m:Nat)(cs:List Value):Prop where
 r:wC (λb=>w0.heap.size<=b) wr v 5 m cs
 u:Bw w0 wr
 z:m=0->v=nS
def uvm{ops:Array Oper}{rest:List Oper}{o:Oper}{a:Act}{l:Exit->Act->World->Prop}(t:o.guard=none)(s x:Operand)(z:o.op=.call { callee:=.builtin .append,args:=#[s,x],argTypes:=#[24,24] })
  {w0 w1 w:Wl} {v y:Vl} {m:Nat} {cs:List Value} {d:Bo} (A:a.eval s=v) (C:a.eval x=y) (D:y=Sl (Sm w1.heap.size 0) 1 1) (B:w=w1.alloc (Wq d)) (h:Ey w0 w1 v m cs) (E:m<=4194304)
  (k:∀w' i j,Hid (Ey w0 w' (Sl i (m+1) j) (m+1) (cs++Ck d))->wpList prog ops l rest (a.put o.dst (Sl i (m+1) j)) w'):wpList prog ops l (o::rest) a w:=by
 subst B D;have b1:=uk w1 (Wq d);refine Jt t s x 24 24 z A C TG (yx h.r oM b1) (TH w1 d) oM ?_;intro I w' n c H;obtain⟨i,j,rfl⟩:=uq n;have F:=h.u.size;have G:=b1.size;refine k w' i j ⟨Vf n (λb q=>q.elim id (λq=>oM)),?_,λe=>oM⟩;exact⟨c.os.trans (b1.os.trans h.u.os),c.g.trans (b1.tape.trans h.u.tape),c.f.trans (b1.output.trans h.u.output),by have:=c.h;omega,λb p=>(c.d b oM (λq=>oM)).trans ((b1.block b oM).trans (h.u.block b p))⟩
def Ey.lt{w0 w v m cs}(h:Ey w0 w v m cs):wC (λb=>w0.heap.size<=b/\b<w.heap.size) w v 5 m cs:=by
 rcases h.r with d|⟨g,cap,e,k,f,i,j,a⟩
 ·exact .inl d
 by_cases c:m=0
 ·exact .inl ⟨h.z c,c,Hh oM⟩
 obtain⟨u,l⟩:=Dt.1 (a 0 oM).1;exact .inr ⟨g,cap,e,⟨k,ud l⟩,f,i,j,a⟩
def uh9{w0 w E}{k q:Nat}{a}{c:Nat}(h:Ey w0 w (Sl a (num E k) c) (num E k) (xF E k))(s:Lj E k)(o:1<=zE E k)(t:Bi E k (zE E k)=(q:Int)) :
  ∃g,a=some (Ad g 0)/\w0.heap.size<=g/\g<w.heap.size/\q<num E k/\(∃u,w.cell? (Ad g (q*5+3))=some u)/\w.frozen? (Ad g (q*5+3))=false/\w.cell? (Ad g (q*5+4))=some (Iv (Bi E k (zE E k-1)))/\∀x:Int,Ey w0 (w.setCell (Ad g (q*5+3)) (Iv x)) (Sl a (num E k) c) (num E k) ((xF E k).set (q*5+3) (Iv x)):=by
 have L:=Qd s;obtain⟨j,j1,j2,j3,j4,z⟩:=L.a (zE E k) o (Eg _);have f:q=num E j:=by rw[j3]at t;omega
 have n:q<num E k:=by rw[f];exact EB E j2 j1
 have p:=h.r;rcases h.r with⟨_,e,_⟩|⟨g,cap,e,d,v,y,m,b⟩
 ·omega
 obtain rfl:a=some (Ad g 0):=by injection e
 obtain⟨u,i⟩:=Dt.1 (b (q*5+3) oM).1;refine⟨g,rfl,d,ud i,n,⟨u,i⟩,(b (q*5+3) oM).2,?_,λx=>⟨wC.k p (by rw[TQ];omega) _,uy h.u d,λe=>oM⟩⟩;have l:=utX E j2 j1;rw[<-f]at l;rw[m (q*5+4) (by rw[TQ];omega)];unfold xF;rw[TP (λj=>Ck (Mz E k j)) _ q 4 j (λ_ _=>Wx) l oM,<-j4];rfl
def Og(E:Nat->Au)(k:Nat):Int:=if k=0 then 0 else (E (k-1)).c
def utW{E k}(h:TL E k):Og E k<=(E k).c:=by
 unfold Og;split
 ·exact h.c
 exact h.k oM
def grI(w:Wl)(n:Nat)(E:Nat->Au)(d c b a:Vl)(wr:Wl):Prop :=
 ∃k:Nat,k<=n/\a=Iv (k:Int)/\c=Iv (Bi E k (zE E k))/\b=Iv (Og E k)/\Ey w wr d (num E k) (xF E k)
def upd Q a n c E w(A:Mv Q w a n E)(hn:n<=1048576)(Z:Whole E n) :
  Cs 74 #[Sl a n c] w (λe w'=>∃ta tc,e=Rt (.tuple #[Sl ta (num E n) tc,.nilIface])/\Ey w w' (Sl ta (num E n) tc) (num E n) (xF E n)):=by
 have HE:=ua A;have L:=ua Z;clear A Z;go_enter func74,ntmps74;go_wp2;go_loopw [4,5,6,11] (λtv mv lv T wr=>grI w n E tv mv lv T wr) (λtv mv lv T _=>n-(intOf T).toNat)
 ·exact⟨0,wP,rfl,rfl,rfl,.inl ⟨rfl,rfl,rfl⟩,wI _,λ_=>rfl⟩
 obtain⟨k,hk,rfl,rfl,rfl,N⟩:=hrel;obtain⟨U,I,rfl⟩:=uq N.r;have t:=L.1.g hk;obtain⟨m,H⟩:=nm (num E k);have ah:=Ss E k;have o2:=xE t;obtain⟨l,p⟩:=nm (Bi E k (zE E k));have af:=(Qd t).lt (zE E k) o2 (Eg _);have P:zE E k=0->l = -1:=λe=>by rw[<-p,e];exact(Qd t).f
 have R:1<=zE E k->0<=l:=λe=>by rw[<-p];exact(Qd t).ge _ e (Eg _)
 have X:=ua t;have F:=ua N;have i:Hid (num E k=m/\Bi E k (zE E k)=l):=⟨H,p⟩;rw[H]at ah ⊢;rw[H,p]at af;rw[p];clear N H p t;by_cases aa:k<n
 ·rcases HE.q F.u with h0|⟨b,off,rfl,hq,A⟩
  ·omega
  obtain⟨c0,c1,c2⟩:=A k aa;have s:=L.1 k aa;have ak:=utW s;have ai:=ua s;have k0:=s.lo;have k2:=s.hi;have W:Hid (Og E (k+1)=(E k).c):=by show _=_;unfold Og;rw[Zn oM,Ke]
  have ab:=s.a;have V:Hid (∀b,cls E k=b->(b=true↔(E k).e=2)):=λb e=>by rw[<-e];unfold cls;simp
  have lb:=ud c0;have hlt':(k:Int)<(n:Int):=oM;have D:Hid (cls E k=false->num E (k+1)=m+1/\Bi E (k+1) (zE E (k+1))=(m:Int)/\xF E (k+1)=xF E k++Ck ⟨(E k).e,(E k).f,(E k).c,0,l⟩):=λj =>
   ⟨by rw[Ww E j,i.o.1],by rw[kJ j,jx j,Zp rfl,i.o.1],by rw[umd X.o j,i.o.2]⟩
  have C:Hid (cls E k=true->num E (k+1)=m/\zE E k=zE E (k+1)+1/\Bi E (k+1) (zE E (k+1))=Bi E k (zE E k-1)/\∀q:Nat,l=(q:Int)->q<m->xF E (k+1)=(xF E k).set (q*5+3) (Iv (E k).c)):=λj =>
   ⟨by rw[EE j,i.o.1],by rw[xY j];omega,by rw[xX j,xY j],λq e hq=>ujG j (by rw[i.o.2];exact e) (by rw[i.o.1];exact hq)⟩
  obtain⟨cl,O⟩:=nm (cls E k);have G:=V cl O;rw[O]at D C;clear A V s O;generalize (E k).f=v at *;generalize (E k).c=ps at *;generalize (E k).e=kd at *;have q1:¬ps<Og E k:=oM;generalize Og E k=ls at *;have ac:Hid (Ey w (wr.alloc (Oc #[Iv kd,Iv v,Iv ps] 99)) (Sl U m I) m (xF E k)):=by
   have:=F;rw[i.o.1]at this;exact⟨yx this.r oM (wG _),uf this.u (wG _),this.z⟩
  cases cl with
  |false =>
   have ad:kd=0\/kd=1:=by have h3:¬kd=2:=λh=>aB (G.2 h) dC;omega
   obtain⟨y1,y2,B⟩:=D rfl;have o:Hid (num E (k+1)=m+1/\Bi E (k+1) (zE E (k+1))=(m:Int)/\xF E (k+1)=xF E k++Ck ⟨kd,v,ps,0,l⟩):=⟨y1,y2,B⟩;clear y1 y2 B D C G k0 k2 ab P R;rcases ad with rfl|rfl;all_goals
    go_wp2_with (at_builtin;refine uvm (w1:=wr.alloc (Oc #[Iv _,Iv v,Iv ps] 99)) (y:=Sl (Sm (wr.heap.size+1) 0) 1 1) (d:=⟨_,v,ps,0,l⟩) rfl _ _ rfl rfl rfl sM rfl ac oM ?_;intro W4 a4 c4 G1);go_roundw
    ·exact⟨k+1,oM,by go_num,by rw[o.o.2.1],by rw[W.o],by rw[o.o.1,o.o.2.2];exact G1⟩
    simp[intOf];omega
  |true =>
   have ae:=G.1 rfl;obtain⟨y1,y2,B,y4⟩:=C rfl;have S:1<=zE E k:=oM;have aj:=R S;obtain⟨q,rfl⟩:∃q:Nat,l=(q:Int):=⟨l.toNat,oM⟩;obtain⟨g,rfl,g1,g2,Y,⟨u,g4⟩,g5,g6,x⟩:=uh9 F X S i.2;rw[i.o.1]at Y x;have al:(q:Int)<(m:Int):=oM;have J:Hid (Ey w ((wr.setCell (Ad g (q*5+3)) (Iv ps)).alloc (Oc #[Iv kd,Iv v,Iv ps] 99)) (Sl (Sm g 0) m I) m ((xF E k).set (q*5+3) (Iv ps))) :=
    ⟨yx (x ps).r oM (wG _),uf (x ps).u (wG _),(x ps).z⟩
   have o:Hid (num E (k+1)=m/\Bi E (k+1) (zE E (k+1))=Bi E k (zE E k-1)/\xF E (k+1)=(xF E k).set (q*5+3) (Iv ps)):=⟨y1,B,y4 q rfl Y⟩;subst ae;generalize Bi E k (zE E k-1)=pr at *;clear y1 y2 B y4 x D C G k0 k2 ab P R S;go_wp2;go_roundw
   ·exact⟨k+1,oM,by go_num,by rw[o.o.2.1],by rw[W.o],by rw[o.o.1,o.o.2.2];exact J⟩
   simp[intOf];omega
 obtain rfl:k=n:=oM;have hlt':¬(k:Int)<(k:Int):=oM;obtain rfl:=P L.2;have J:Hid (Ey w wr (Sl U m I) m (xF E k)):=by have:=F;rw[i.o.1]at this;exact this
 go_wp2;refine wL (by simp[results,f74,go_sem];rfl) rfl ?_;exact⟨U,I,by rw[i.o.1],by rw[i.o.1];exact J⟩
end Go.Proofs.YtoihadcablknpaaGreatDoor
