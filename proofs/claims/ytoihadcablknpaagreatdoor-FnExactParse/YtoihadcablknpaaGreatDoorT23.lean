import Derived.Test.YtoihadcablknpaaGreatDoorT22
import Derived.Test.YtoihadcablknpaaGreatDoorT15
set_option linter.unusedVariables false
set_option linter.unusedSimpArgs false
set_option linter.defProp false
set_option maxHeartbeats 40000000
set_option maxRecDepth 100000
namespace Go.Proofs.YtoihadcablknpaaGreatDoor
open Go.RowKit
open Go.Proofs.Tryz
open M (OpD uh Gr uw EX ins uJ jW wt)
def wB.h{Q k w a n S}(h:wB Q k w a n S):wB (Of w) k w a n S:=by
 by_cases e:n=0
 ·exact .inl e
 rcases h with h|⟨b,off,d,f,c⟩
 ·exact .inl h
 exact .inr ⟨b,off,d,ud (c 0 oM),c⟩
def Em.h{Q w b o d}(h:Em Q w b o d):Em (Of w) w b o d:=by
 obtain⟨e,⟨a,c,f,g⟩,i⟩:=h;exact⟨e,⟨a,c,f,g.h⟩,i⟩
def wT.h{Q w a n B}(h:wT Q w a n B):wT (Of w) w a n B:=by
 by_cases e:n=0
 ·exact .inl e
 rcases h with h|⟨b,off,d,g,c⟩
 ·exact .inl h
 exact .inr ⟨b,off,d,ud (c 0 oM).e,λi f=>(c i f).h⟩
def zC.h{Q w ra la g}(h:zC Q w ra la g):zC (Of w) w ra la g:=by
 refine⟨?_,?_⟩
 ·by_cases e:g.nr=0
  ·exact .inl e
  rcases h.a with q|⟨b,off,j,m,f⟩
  ·exact .inl q
  have k:b<w.heap.size:=by obtain⟨⟨⟨a,c,d,_⟩,_⟩,_⟩:=f 0 oM;exact ud d
  exact .inr ⟨b,off,j,k,λi l=>let ⟨⟨⟨a,c,d,hn⟩,⟨a',c',c1,hb⟩⟩,hc⟩:=f i l;⟨⟨⟨a,c,d,hn.h⟩,⟨a',c',c1,hb.h⟩⟩,hc⟩⟩
 by_cases e:g.nb=0
 ·exact .inl e
 rcases h.c with q|⟨b,off,j,m,f⟩
 ·exact .inl q
 have k:b<w.heap.size:=by obtain⟨⟨⟨a,c,d,_⟩,_⟩,_⟩:=f 0 oM;exact ud d
 exact .inr ⟨b,off,j,k,λi l=>let ⟨⟨⟨a,c,d,hn⟩,hh,⟨a',c',c1,hb⟩⟩,hc⟩:=f i l;⟨⟨⟨a,c,d,hn.h⟩,hh,⟨a',c',c1,hb.h⟩⟩,hc⟩⟩
def yP(g:Gr)(k:Nat):List uw:=M.bK (Cw g) (Gt g) (If g) (kP g) k
def ju g k:(yP g k).length=PL g k:=M.eR _ _ _ _ _ _
def DH g k(h:0<(nd g k).bl):yP g (k+1)=yP g k++[Gt g k]++uJ (Cw g) (If g k) (PL g k+1)++[ins 11 0 0]++[ins 7 0 0]:=by
 have e:kP g k=true:=by simp[kP,h]
 unfold yP;rw[M.bK,Zp e,show(M.bK (Cw g) (Gt g) (If g) (kP g) k).length=PL g k from ju g k];unfold M.nodeC;simp
def SG g k(h:¬0<(nd g k).bl):yP g (k+1)=yP g k:=by
 have e:¬kP g k=true:=by simp[kP,h]
 unfold yP;rw[M.bK,Zn e]
namespace V
def Tab (w : World) : Prop := Lib.TabBelow Tryz.prog w.heap.size w "internal/strconv.uint64pow10" .u64 Lib.pow10Tab
def Tab.on{w w'}(h:Tab w)(k:Bw w w'):Tab w':=λx a=>h x (k.trans (a.mono k.size))
def iD(u:Nat):Lib.byteCells (Lib.itoa (u:Int))=(bZ u).map (Value.int .u8):=by
 rw[Lib.itoa_nonneg];simp[Lib.byteCells,bZ]
def iC (B num : Nat)(hnum : num <= 1048577)v xs w(hx : xs.length <= 4194304)(hown : w.ownsRow B 5 1 v xs.length xs)(hB : B <= w.heap.size)(htab : Lib.TabBelow Tryz.prog B w "internal/strconv.uint64pow10" .u64 Lib.pow10Tab) :
  Cs 151 #[v,Iv num,Iv 10] w λe w'=>∃v' xs',e=Rt v'/\Hid (xs'=xs++(bZ num).map (Value.int .u8))/\w'.ownsRow B 5 1 v' xs'.length xs'/\Below B w w':=by
 refine(Tryz.nU B xs.length num oM oM v xs w hown hB oM htab).mono ?_;rintro e w' ⟨v',rfl,h1,h2,_⟩;rw[iD]at h1;refine⟨v',_,rfl,rfl,?_,h2⟩;have hl:(xs++(bZ num).map (Value.int .u8)).length=xs.length+(Lib.itoa (num:Int)).length:=by
  rw[<-iD];simp[Lib.byteCells]
 rw[hl];exact h1
def nR{B w0 w v xs zs}(h:w.ownsRow B 5 1 v xs.length xs)(a:xs=zs.map (Value.int .u8))(o:0<zs.length)(d:Below B w0 w)(c:B<=w.heap.size):OwnM B w0 w v zs:=by
 have l:xs.length=zs.length:=by rw[a];simp
 rcases h.2 with⟨_,n⟩|⟨g,cap,m,rfl,i,f,p,q,r,b⟩
 ·omega
 rw[l];refine fD f (.inl rfl) i d c oM oM λj k=>?_
 have e:xs[j]?=some (Bv (zf zs j)):=by rw[a];exact eJ k
 rw[<-b,List.getElem?_take]at e;split at e
 ·simpa using e
 cases e
def OwnM.m{A B a w0 w v zs}(h:OwnM B w0 w v zs)(l:Below A a w0)(b:A<=B):OwnM A a w v zs:=by
 obtain⟨g,cap,c,d,e,f,i,j,k⟩:=h;exact⟨g,cap,c,wN b d,e,f,i,l.trans (j.mono b),wN b k⟩
def uv1{ops:Array Oper}{rest:List Oper}{o:Oper}{a:Act}{Q:Exit->Act->World->Prop}{w:Wl}(m:o.guard=none)(s x:Operand)(q:o.op=.call { callee:=.builtin .append,args:=#[s,x],argTypes:=#[22,22] })
  {B:Nat} {w0:Wl} {v:Vl} {xs:List Value} {z:Int} (r:a.eval s=v) (t:a.eval x=Sl (Sm w.heap.size 0) 1 1) (d:w.ownsRow B 5 1 v xs.length xs) (D:xs.length<=4194303) (l:Below B w0 w) (j:B<=w.heap.size)
  (h:∀b w' c,Hid (c=xs++[Bv z])->w'.ownsRow B 5 1 b c.length c->Below B w0 w'->wpList prog ops Q rest (a.put o.dst b) w'):wpList prog ops Q (o::rest) a (w.alloc (Oc #[Bv z] 5)):=by
 obtain⟨i,n,y,A,C⟩:=info_parts Tryz.eK;refine wpList_append_own _ m s x 22 q B 5 i (Bv 0) 1 1 underlying22 n y A C rfl dC v xs.length xs r (d.alloc _) (Ad w.heap.size 0) 1 1 [Bv z] t rfl (cell_one_new _ _ _) (by intro u e;simp at e;subst e;rfl) (by unfold maxLen;omega) oM sO ?_;intro b w' f g _;refine h b w' _ rfl ?_ ((l.alloc j _).grown g sO (λk p=>(d.lt k p).1));rw[wK];exact f
def gL a n cap q T(adr:Nat->Option Addr)ma mb mo m mc M' w(hV:Ez w a n cap T adr)(hq:q<=n)(hA:0<m->ma=some (Ad mb mo))(hM:Tx w mb mo m M')(hm:m<=1048576)(htab:Tab w) :
  Cs 114 #[Sl a n cap,Iv q,Sl ma m mc] w λe w'=>iE T M' n m q w e w':=by
 go_enter Tryz.func114,Tryz.ntmps114;go_wp2_with fail;refine(callsIn_wide.1 (gW a n cap q T adr _ hV)).mono ?_;rintro e w1 ⟨(⟨num,fr,rfl,hfr,hnum,hst,hle,hqe⟩|⟨rfl,hq'⟩),hb1⟩
 ·have hle':fr<=q:=oM;have hqe':q<=fr+bD T n fr:=oM;have hll:=cF T n fr;have FIN:Hid (∀c:Nat,(∀j,j<c->fr+M.pos (sh T fr) (bD T n fr) 0 j<q)->q<=fr+M.pos (sh T fr) (bD T n fr) 0 c->LC T n q num (c+1)):=λc h1 h2=>uvr hfr hnum hst hle' hqe' h1 h2
  have FST:Hid (M.Start T q fr):=⟨hle',hst,λj x1 x2=>eB (n:=n) x1 oM⟩;have hn:=hV.c;have hcap:=hV.p;have hnum':num<=1048577:=by
   have:=M.dE T fr;omega
  clear hnum hst hle hqe;have hV1:=hV.q hb1;have hM1:=hM.q hb1;have ht1:=htab.on hb1;obtain⟨b,o,hAb,hTb⟩:=hV1.e fr hfr;go_wp2_with fail;obtain⟨X,hX⟩:∃X,w1.alloc (Oc #[Value.int IntKind.i64 num,Value.int IntKind.i64 fr,Sl (adr fr) (bD T n fr) (cap-fr)] 268)=X:=⟨_,rfl⟩;have hx:=eN w1 (Iv num) (Iv fr) (Sl (adr fr) (bD T n fr) (cap-fr)) 268;rw[hX]at hx;obtain⟨x0,x1,x2⟩:=hx;have bX:Bw w1 X:=by rw[<-hX];exact(wI w1).alloc wF _
  have sX:w1.heap.size<X.heap.size:=by rw[<-hX];simp
  rw[hX];clear hX;refine(callsIn_wide.1 (mL num fr b o (bD T n fr) (cap-fr) (adr fr) q (sh T fr) X (hTb.q bX) (λi=>hV.j _) oM oM oM hAb hqe')).mono ?_;rintro e w2 ⟨⟨c,rfl,hc1,hc2,hc3⟩,hbc⟩;obtain⟨C,hC⟩:∃C,C=c+1:=⟨_,rfl⟩;have hlc:=FIN.o c hc1 hc2;rw[<-hC]at hlc ⊢;obtain⟨_,hCq⟩:=hlc.le;have HLC:Hid (LC T n q num C):=hlc;have y0:=(hbc.cell (p:=(Ad w1.heap.size 0)) sX).trans x0;have y2:=(hbc.cell (p:=(Ad w1.heap.size 2)) sX).trans x2;have sX2:w1.heap.size<w2.heap.size:=wX sX hbc.size;have b12:Bw w1 w2:=bX.trans (hbc.mono (Nat.le_of_lt sX));have hM2:=hM1.q b12;have hT2:=hTb.q b12;have ht2 : Lib.TabBelow Tryz.prog w2.heap.size w2 "internal/strconv.uint64pow10" .u64 Lib.pow10Tab := ht1.on b12
  have b02:Bw w w2:=hb1.trans (b12.mono hb1.size);have hsub:(C:Int)-1=(c:Int):=oM;have hcn:c<=1048576:=oM;have hCn:C<=1048577:=oM;have dl1:=dQ num;have dl2:=dQ C;obtain⟨z5,hz5⟩:∃z5,z5=(bZ num++[58])++bZ C:=⟨_,rfl⟩;have k5:z5.length<=3000000:=by rw[hz5];simp;omega
  have p5:0<z5.length:=by rw[hz5];simp;omega
  have Z5:Hid (z5=(bZ num++[58])++bZ C):=hz5;have D1:Hid ((bZ num).length<=1048579):=(show _<=_ by omega);have HC:Hid (C=c+1):=hC;clear hz5 hlc hc1 hc2 hc3 x0 x1 x2 FIN dl1 dl2 hC;go_wp2_with (first
   |(go_at_call 151;refine(iC w2.heap.size num hnum' nS [] _ sM (World.ownsRow_nil _ _ _ _) wF ht2).mono ?_;rintro e w3 ⟨v3,xs3,rfl,E3,R3,B3⟩)
   |(at_builtin;refine uv1 rfl (.tmp 25) (.tmp 26) rfl (z:=58) rfl rfl R3 (by have:=D1.o;rw[E3.o];simp;omega) B3 B3.size ?_;intro v4 w4 xs4 E4 R4 B4)
   |(go_at_call 151;refine(iC w2.heap.size C hCn v4 xs4 _ (by have:=D1.o;rw[E4.o,E3.o];simp;omega) R4 B4.size (λx hx=>ht2 x (B4.trans hx))).mono ?_;rintro e w5 ⟨v5,xs5,rfl,E5,R5,B5⟩;have O5:OwnM w2.heap.size w2 w5 v5 z5:=nR R5 (by rw[E5.o,E4.o,E3.o,Z5.o];simp) p5 (B4.trans B5) (B4.trans B5).size)
   |(at_builtin;refine app rfl (.tmp 31) (.const (.string ⟨#[58,32]⟩)) 9 rfl rfl rfl O5 (fE [58,32] rfl) 3000000 2 k5 sM oM ?_;intro v6 w6 z6 E6 k6 O6)
   |(at_builtin;refine app rfl (.tmp 33) (.tmp 34) 22 rfl rfl rfl O6 (dJ hA (hM2.q O6.below)) 3000002 1048576 k6.o (by rw[cX];exact hm) oM ?_;intro v7 w7 z7 E7 k7 O7)
   |(at_builtin;refine app rfl (.tmp 36) (.tmp 37) 22 rfl rfl rfl (O7.a _) (dK 10) 4048578 1 k7.o sM oM ?_;intro v8 w8 z8 E8 k8 O8;have y8:=(O8.below.cell (p:=(Ad w1.heap.size 2)) sX2).trans y2)
   |(at_builtin;refine app rfl (.tmp 39) (.tmp 41) 22 rfl rfl rfl O8 (dJ hAb (hT2.q O8.below)) 4048579 1048576 k8.o (by rw[cX];omega) oM ?_;intro v9 w9 z9 E9 k9 O9)
   |(at_builtin;refine app rfl (.tmp 43) (.tmp 44) 22 rfl rfl rfl (O9.a _) (dK 10) 5097155 1 k9.o sM oM ?_;intro v10 w10 z10 E10 k10 O10)
   |(go_at_call 152;refine(nT _ c _ (vo _ _ _) hcn).mono ?_;rintro e w11 ⟨⟨g,rc,rfl,hrep⟩,hb11⟩;have O11:=(O10.a _).on hb11)
   |(at_builtin;refine app rfl (.tmp 46) (.tmp 50) 22 rfl rfl rfl O11 (dJ (λ_=>rfl) hrep) 5097156 1048576 k10.o (by rw[cX];exact hcn) oM ?_;intro v12 w12 z12 E12 k12 O12)
   |(at_builtin;refine app rfl (.tmp 52) (.const (.string ⟨#[94,10]⟩)) 9 rfl rfl rfl O12 (fE [94,10] rfl) 6145732 2 k12.o sM oM ?_;intro v13 w13 z13 E13 k13 O13))
  go_ret;refine⟨_,num,C,fr,rfl,HLC.o,FST.o,?_⟩;have hz:z13=Rz T M' m fr (bD T n fr) num C:=by
   rw[E13.o,E12.o,E10.o,E9.o,E8.o,E7.o,E6.o,Z5.o,HC.o];rfl
  rw[<-hz];exact O13.m b02 b02.size
 omega
def gM a n cap q T(b:Nat->Option Addr)j m mc w(g:Ez w a n cap T b)(h:q<0\/(n:Int)<q) :
  Cs 114 #[Sl a n cap,Iv q,Sl j m mc] w λe w'=>e=Rt nS/\Bw w w':=by
 have d:=h;go_enter func114,ntmps114;go_wp2_with fail;refine(callsIn_wide.1 (gW a n cap q T b _ g)).mono ?_;rintro e w1 ⟨(⟨num,f,rfl,k,p,t,l,s⟩|⟨rfl,r⟩),c⟩
 ·have:=d;have o:=cF T n f;omega
 have i:=c.size;go_wp2;go_ret;exact⟨rfl,c.alloc i _⟩
end V
namespace V
def fL(m:Nat):IntKind.u8.wrap (m:Int)=((m%256:Nat):Int):=by
 simp[IntKind.wrap,IntKind.signed,IntKind.bits]
end V
namespace V
def mk(m:Nat)(j:Nat):Int:=(((m+j)%256:Nat):Int)
def uvt{w b n f}(h:w.rowIs b 5 n f):Wr w b n:=λj a=>⟨by rw[h.cell a];rfl,h.frozen j⟩
end V
namespace V
def Val(B U:Nat)(w:Wl)(v:Vl)(zs:LI):Prop :=
 ∃a cap,v=Sl a zs.length cap/\(0<zs.length->∃g,a=some (Ad g 0)/\B<=g/\g<U/\Tx w g 0 zs.length (zf zs)/\Wr w g zs.length)
def Val.nil B U w:Val B U w nS []:=⟨none,0,rfl,λh=>by simp at h⟩
def Val.a{B w0 w v zs}(h:OwnM B w0 w v zs):Val B w.heap.size w v zs:=by
 obtain⟨g,cap,d,e,i,b,f,_,_⟩:=h;refine⟨_,cap,d,λc=>⟨g,rfl,e,b.lt c,b,λj k=>f j oM⟩⟩
def Tx.m{C w w' b off n T}(h:Tx w b off n T)(k:wA C w w')(c:¬C b):Tx w' b off n T :=
 λi a=>(k.p (p:=(Ad b (off+i))) (cG (h i a)) c).trans (h i a)
def Wr.m{C w w' g n}(h:Wr w g n)(k:wA C w w')(b:¬C g):Wr w' g n:=λj e=>by
 obtain⟨a,d⟩:=h j e;obtain⟨u,f⟩:=Dt.1 a;have c:=cG f;rw[k.p (p:=(Ad g j)) c b,k.n (p:=(Ad g j)) c b];exact⟨a,d⟩
def Val.m{C B U w w' v zs}(h:Val B U w v zs)(k:wA C w w')(j:∀g,B<=g->g<U->¬C g):Val B U w' v zs:=by
 obtain⟨a,cap,rfl,i⟩:=h;refine⟨a,cap,rfl,λf=>?_⟩;obtain⟨g,rfl,b1,b,d,e⟩:=i f;have c:=j g b1 b;exact⟨g,rfl,b1,b,d.m k c,e.m k c⟩
def copyT a n cap T w(d:ArgT w a n T)(f:∀i,0<=T i/\T i<=255)(g:n<=1048576) :
  Cs 5 #[Sl a n cap] w λe w'=>e=Rt (Sl (Sm w.heap.size 0) n n)/\Tx w' w.heap.size 0 n T/\Wr w' w.heap.size n/\Bw w w'/\w.heap.size<w'.heap.size:=by
 refine(mR a n cap T w d f g).mono ?_;rintro e w' ⟨rfl,b,c,h⟩;exact⟨rfl,uvq b,uvt b,c,oM⟩
def Ans(T a:Nat->Int)(n m:Nat)(q:Int)(zs:LI):Prop :=
 ((q<0\/(n:Int)<q)/\zs = [])\/∃p L C f,q=(p:Nat)/\p<=n/\LC T n p L C/\M.Start T p f/\zs=Rz T a m f (bD T n f) L C
def Ans.a{T b n m q zs ys}(h:Ans T b n m q zs)(k:Ans T b n m q ys):zs=ys:=by
 rcases h with⟨o,rfl⟩|⟨p,L,C,f,rfl,r,c,d,rfl⟩<;>rcases k with⟨t,rfl⟩|⟨i,j,C',l,s,u,e,g,rfl⟩
 ·rfl
 ·omega
 ·omega
 obtain rfl:p=i:=oM;obtain⟨rfl,rfl⟩:=c.a e;obtain rfl:=d.a g;rfl
def gP T a m f e L C:(Rz T a m f e L C).length<=L+C+m+e+C+16:=by
 have:=dQ L;have:=dQ C;simp[Rz,cX];omega
end V
section
open M (OpD uh Gr)
structure RY(n ob:Nat)(out:Nat->Bool)(w:Wl)(e:Ending)(w':Wl):Prop where
  ret:∃v,e=Rt v
  y:w'.rowIs ob 4 n (fun j=>.bool (out j))
  m:wA (fun x=>x=ob) w w'
theorem qE{w:Wl}{a n:Nat}{out:Nat->Bool}(h:w.rowIs a 4 n (fun j=>.bool (out j))){f:Nat->Bool}(k:∀j,j<n->f j=out j):w.rowIs a 4 n (fun j=>.bool (f j)):=h.congr (fun j b=>by simp only[k j b])
theorem yy{w w' a n f}(h:w.rowIs a 4 n f)(k:Bw w w'):w'.rowIs a 4 n f:=h.of_block (k.block _ (yj h))
theorem We nr S:∀T:TR,(T.a (uC nr S)).e=T.a (M.fN nr S.h)
  | .lf o=>Vg nr S o _ _
  | .un o x=>by show (uC nr S o (x.a _) default).e=_;rw[Vg,We nr S x];rfl
  | .bn o x y=>by show (uC nr S o (x.a _) (y.a _)).e=_;rw[Vg,We nr S x,We nr S y];rfl
def jt(nr:Nat)(S:NS)(T:TR):NS:=(T.a (uC nr S)).f
theorem ul2{V w w' a}(h:Bw V w)(k:wA (fun x=>x=a) w w')(b:V.heap.size<=a):Bw V w':=h.trans (k.below h.size (fun x c e=>by have e:x=a:=e;omega))
def Oe(V:Wl)(ra la:Oa)(rc lc nr a e f mc d g:Nat)(S:NS)(Q:Np)(b:Nat)(T:TR):Prop :=
  ∀(off c l:Nat) (out:Nat->Bool) (w:Wl),l=T.n->T.Ok (M.bE nr a)->T.n<=c->T.n<=2000->TA Q V b T off->Bw V w->w.rowIs d 4 (nr+a) (fun j=>.bool (out j)) ->
    Cs 36 #[.agg #[Sl ra nr rc,Sl la a lc],Sl (Sm b off) l c,Sl (Sm e f) (nr+a) mc,Sl (Sm d 0) (nr+a) g] w (RY (nr+a) d (fun j=>out j||(jt nr S T).h j) w)
section
variable {V:Wl} {Q:Np} {ra la:Oa} {rc lc nr nb mb mo mc ob oc b:Nat} {S:NS}
theorem uo0(J:nr<=100)(L:nb<=100)(o:OpD):Oe V ra la rc lc nr nb mb mo mc ob oc S Q b (.lf o):=by
  intro off c l out w F E O T m B v;obtain⟨i,⟨sa,sc,H,U⟩,I⟩:=m.q B;have N:=ud i;obtain⟨s,g⟩:=E;have C:=g.2.2.2.2.1;have D:o.f<=1048576:=by have:=g.2.2.2.2.2;unfold M.bM at this;split at this<;>(try split at this)<;>omega
  have A:o.e=0\/o.e=1\/o.e=2\/o.e=3:=by have:=g.1;have:=g.2.1;unfold M.ar at s;split at s<;>(try split at s)<;>omega
  have p:=ua v;have aa:=yj v;subst F;simp only[TR.n]at *;by_cases d:M.bI o
  · have G:=DL g d
    have X:((M.tg nr o:Nat):Int)<((nr+nb:Nat):Int):=oM;have h:Hid (jt nr S (.lf o)=nz.k (M.tg nr o)):=by show _=_;rcases d with q | q<;>simp[jt,TR.a,uC,M.bI,q]
    have m:=ua fun (W:Wl)=>jR ra la sa nr rc nb lc sc o W d C D oM
    generalize jt nr S (.lf o)=z at *;rcases d with q | q
    all_goals
      rw[q]at i m;go_enter func36,ntmps36;go_wp2_with (go_at_call 65;refine (m _).mono ?_;rintro e W ⟨rfl,t⟩;have u:=ua (uf (Bn w) t);have r:=ua (yy p u);have P:=r.cell G;have R:=r.frozen (M.tg nr o);obtain⟨Y,Z,k2⟩:=((uV _ _ _ (w.heap.size+1) sM:wJ _ (w.heap.size+1) _).on t).x;clear t);go_end0;refine⟨⟨_,rfl⟩,(r.o.set (M.tg nr o) Bt).congr (fun j y=>?_),(vw u).c (wA.b _ (Ad ob _) _ rfl)⟩
      rw[h.o,qT oM oM,xD];by_cases e:j=M.tg nr o<;>simp[e]
  · have h:Hid (jt nr S (.lf o)=nz):=by
      show _=_;rcases A with q | q | q | q
      · simp[jt,TR.a,uC,q]
      · simp[jt,TR.a,uC,M.bI,q]
      · exact aB (.inl q) d
      · exact aB (.inr q) d
    generalize jt nr S (.lf o)=z at *;rcases A with q | q | q | q
    · rw[q]at i
      go_enter func36,ntmps36;go_wp2;go_end0;exact⟨⟨_,rfl⟩,qE (yy p (Bn w)) (fun j y=>by rw[h.o,xD,Nd]),vw (Bn w)⟩
    · rw[q]at i
      go_enter func36,ntmps36;go_wp2;go_end0;exact⟨⟨_,rfl⟩,qE (yy p (Bn w)) (fun j y=>by rw[h.o,xD,Nd]),vw (Bn w)⟩
    · exact aB (.inl q) d
    · exact aB (.inr q) d
theorem uo1(Y:V.heap.size<=ob)(o:OpD)(x:TR)(J:Oe V ra la rc lc nr nb mb mo mc ob oc S Q b x):Oe V ra la rc lc nr nb mb mo mc ob oc S Q b (.un o x):=by
  intro off c l out w z y H I t h g;have E:=ua t;obtain⟨hx,s,⟨sa,sc,P,Z⟩,R⟩:=t.q h;have T:=ud s;have O:=ua g;have aa:=yj g;have f:o.e=6\/o.e=7:=by have:=y.1;unfold M.ar at this;split at this<;>(try split at this)<;>omega
  have F:Hid (jt nr S (.un o x)=jt nr S x):=by show _=_;rcases f with q | q<;>simp[jt,TR.a,uC,M.bI,q]
  simp only[TR.n]at H I z;have nx:=x.n0;have G:=ua fun (W:Wl) (k:Bw w W)=>J off c x.n out W rfl y.2.2 oM oM E.1 (h.trans (k.mono h.size)) (yy g k)
  generalize jt nr S (.un o x)=r at *;generalize jt nr S x=u at *;generalize x.n=m at *;subst z;have x2:((m+1:Nat):Int)-1=(m:Int):=oM;have x3:(m:Int)<((m+1:Nat):Int):=oM;have z3:m<=c:=oM;have z5:¬c=0:=oM;have z6:=uM m oM;rcases f with q | q
  all_goals
    rw[q]at s;go_enter func36,ntmps36;go_wp2;generalize i:(w.alloc _).alloc _=X;have p:Hid (Bw w X):=i▸Bn w;have N:=ua (i▸(um w _ _).al _:wJ X w.heap.size #[Sl ra nr rc,Sl la nb lc]);have B:=ua (i▸uV _ _ _ (w.heap.size+1) sM:wJ X (w.heap.size+1) _);obtain⟨y0,y1,y2⟩:=N.x;have L:=B.x.2.2;go_region_with (go_at_call 36;refine (G _ p.drew).mono ?_;rintro e W2 ⟨⟨v,rfl⟩,A,f⟩;have D:=ua A;have C:=ua f;obtain⟨z0,z1,z2⟩:=(B.a (f.d _ L (show ¬(w.heap.size+1=ob) by omega))).x;clear A f)
    all_goals go_wp2
    all_goals go_end0
    all_goals exact⟨⟨_,rfl⟩,qE D (fun j U=>by rw[F.o]),((vw p).c (Bz X)).c C⟩
theorem uo2(h1:nr<=100)(h2:nb<=100)(hM:zS V mb mo (nr+nb) S.h)(ad:V.heap.size<=ob)(o:OpD)(x y:TR)(ix:Oe V ra la rc lc nr nb mb mo mc ob oc S Q b x)(iy:Oe V ra la rc lc nr nb mb mo mc ob oc S Q b y):Oe V ra la rc lc nr nb mb mo mc ob oc S Q b (.bn o x y):=by
  intro off c l out w R hk hc hn N O hR;have HT:=ua (N.q O);have F:=ua hk;have HR:=ua hR;have Y:=ua O;have ai:=yj hR;obtain⟨_,_,L,⟨sa,sc,c1,ag⟩,c2⟩:=N.q O;obtain⟨hx,hy,_⟩:=N;have nx:=x.n0;have ny:=y.n0;simp only[TR.n]at hc hn R;obtain⟨m,T⟩:=nm (x.n+y.n);rw[T]at L c1 c2 hc hn R;have HM:=ua T;subst R;obtain⟨j,s⟩:=nm x.n;have g:=ua s;rw[s]at nx T;have x2:((m+1:Nat):Int)-1=(m:Int):=oM;have x3:(m:Int)<((m+1:Nat):Int):=oM;have f1:m<c:=oM;have f2:m<=c:=oM;have f3:¬c=0:=oM;have z6:=uM m oM;have af:=ud L;have jm:(j:Int)<(m:Int):=oM;have ah:(j:Int)<=(m:Int):=oM;have f4:¬c=j:=oM;have f5:j<=m:=oM;have f6:j<=c:=oM;have JX:=ua fun (W:Wl) (k:Bw V W)=>ix off c j out W g.symm F.2.2.1 (oH g) (oH g) hx k
  have JY:=ua fun (W:Wl) (k:Bw V W) (ou:Nat->Bool)=>iy (off+j*3) (c-j) (m-j) ou W oM F.2.2.2 oM oM (s▸hy) k
  have Z:=ua fun (W:Wl) (k:Bw V W)=>DI h1 h2 x off c j W g.symm F.2.2.1 (oH g) (oH g) (hx.q k) (hM.q k) (ra:=ra) (la:=la) (rc:=rc) (lc:=lc) (mc:=mc)
  have f:o.e=4\/o.e=5:=by have:=hk.1;unfold M.ar at this;split at this<;>(try split at this)<;>omega
  rw[<-We nr S x]at Z;have E:Hid (∀i,(jt nr S (.bn o x y)).h i=((jt nr S x).h i||((o.e==5||(x.a (uC nr S)).e)&&(jt nr S y).h i))):=fun i=>by rcases f with q | q<;>cases hz:(x.a (uC nr S)).e<;>simp[jt,TR.a,uC,M.bI,q,hz,MX]
  generalize jt nr S (.bn o x y)=r at *;generalize jt nr S x=u at *;generalize jt nr S y=v at *;generalize (x.a (uC nr S)).e=z at *;rcases f with q | q
  all_goals
    rw[q]at L E;go_enter func36,ntmps36;go_wp2_with fail;refine (Wu (HT.q (Bn w)) F HM oM).mono ?_;rintro e W ⟨rfl,hw⟩;subst W;rw[g.o];go_wp2;generalize P:(w.alloc _).alloc _=X;have t:Hid (Bw w X):=P▸Bn w;have U:=ua (Y.trans (t.drew.mono Y.size));have xg:=ua (P▸(um w _ _).al _:wJ X w.heap.size #[Sl ra nr rc,Sl la nb lc]);have xo:=ua (P▸uV _ _ _ (w.heap.size+1) sM:wJ X (w.heap.size+1) _);obtain⟨y0,y1,y2⟩:=xg.x;have ae:=xo.x.2.2;go_region_with (go_at_call 36;refine (JX _ U (yy HR t.drew)).mono ?_;rintro e W2 ⟨⟨v2,rfl⟩,aa,f⟩;have I:=ua aa;have G:=ua f;have D:=ua (ul2 U f ad);obtain⟨z0,z1,z2⟩:=(xo.a (f.d _ ae (show ¬(w.heap.size+1=ob) by omega))).x;have ab:=ua (xg.a (f.d _ y2 (show ¬(w.heap.size=ob) by omega)));obtain⟨u0,u1,u2⟩:=ab.x;clear aa f)
    all_goals go_wp2
    all_goals first
      | (go_region
         all_goals go_wp2
         all_goals go_region_with (go_at_call 36;refine (JY _ D.drew.drew _ (yy I (wI W2).drew.drew)).mono ?_;rintro e W4 ⟨⟨v4,rfl⟩,B,A⟩;have J:=ua B;have H:=ua A;clear B A)
         all_goals go_wp2
         all_goals go_end0
         all_goals exact⟨⟨_,rfl⟩,qE J (fun j s=>by rw[E.o];simp[Bool.or_assoc]),((((vw t).c (Bz X)).c G).c (vw (wI W2).drew.drew)).c H⟩)
      | (go_region_with (go_at_call 64;refine (Z _ D.drew).mono ?_;rintro e W3 ⟨rfl,p⟩;have p:=(wI W2).drew.trans p;have C:=ua p;have ac:=ua (D.trans (p.mono D.size));obtain⟨t0,t1,t2⟩:=(ab.on p).x;clear p)
         cases z
         · go_wp2
           go_end0;exact⟨⟨_,rfl⟩,qE (yy I C) (fun j s=>by rw[E.o];simp),(((vw t).c (Bz X)).c G).c (vw C)⟩
         · go_wp2
           go_region_with (go_at_call 36;refine (JY _ ac.drew _ (yy I C.drew)).mono ?_;rintro e W4 ⟨⟨v4,rfl⟩,B,A⟩;have J:=ua B;have H:=ua A;clear B A);all_goals go_wp2
           all_goals go_end0
           all_goals exact⟨⟨_,rfl⟩,qE J (fun j s=>by rw[E.o];simp[Bool.or_assoc]),(((((vw t).c (Bz X)).c G).c (vw C)).c (Bz W3)).c H⟩)
theorem ura(c:nr<=100)(d:nb<=100)(f:zS V mb mo (nr+nb) S.h)(e:V.heap.size<=ob)(T:TR):Oe V ra la rc lc nr nb mb mo mc ob oc S Q b T:=by
  induction T with
  |lf o=>exact uo0 c d o
  |un o x a=>exact uo1 e o x a
  |bn o x y a g=>exact uo2 c d f e o x y a g
end
end
end Go.Proofs.YtoihadcablknpaaGreatDoor
