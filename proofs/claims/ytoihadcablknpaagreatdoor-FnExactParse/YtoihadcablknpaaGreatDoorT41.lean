import Derived.Test.YtoihadcablknpaaGreatDoorT34
import Derived.Test.YtoihadcablknpaaGreatDoorT40
import Derived.Test.YtoihadcablknpaaGreatDoorT32
set_option linter.unusedVariables false
set_option linter.unusedSimpArgs false
set_option linter.defProp false
set_option maxHeartbeats 40000000
set_option maxRecDepth 100000
namespace Go.Proofs.YtoihadcablknpaaGreatDoor
open Go.RowKit
open Go.Proofs.Tryz
section
open M (OpD uh Gr)
section
variable {Q:Np} {w:Wl} {ib il ic pb m:Nat} {I N:Nat->Int} {q:Int} {l:List UInt8}
def Ky(l:List UInt8)(i:Nat):Int:=((l.getD i 0).toNat:Int)
def ZG{B:Nat}{v:Vl}(h:Lib.FreshBytes B w v l):∃a c,v=Sl a l.length c/\wB (λ_=>True) .u8 w a l.length (Ky l):=by
 obtain⟨g,cap,zs,rfl,_,m,_,n,d,k,f,_⟩:=h;refine⟨_,cap,rfl,.inr ⟨g,0,rfl,trivial,λi j=>?_⟩⟩;rw[zL,f i oM];have b:i<zs.length:=oM;have e:l[i]?=some (UInt8.ofNat (zs[i]).toNat):=by
  rw[<-k];simp[Lib.bytesOf,j,b,List.getElem?_take]
 have hb':=d zs[i] (Gb b);unfold Ky;simp only[Cx,e,zG b,Option.getD_some];rw[Vm ⟨hb'.1,oM⟩]
def ZH{a:Nat->Int}{zs:LI}(h:V.Ans I N il m q zs)(e:∀i,i<m->N i=a i):V.Ans I a il m q zs:=by
 rcases h with h|⟨p,L,C,f,b,c,d,g,rfl⟩
 ·exact .inl h
 refine .inr ⟨p,L,C,f,b,c,d,g,?_⟩;unfold V.Rz;rw[show V.lst N m=V.lst a m from Oo (λi j=>e i (Ng.1 j))]
def Bd.e{a:Nat->Int}{e:Ending}{w':Wl}(h:Bd I N il m q w e w')(k:∀i,i<m->N i=a i):Bd I a il m q w e w':=let ⟨v,zs,h1,h2,h3⟩:=h;⟨v,zs,h1,ZH h2 k,h3⟩
def Bd.a{w0:Wl}{e:Ending}{w':Wl}(h:Bd I N il m q w e w')(k:Bw w0 w):Bd I N il m q w0 e w':=let ⟨v,zs,h1,h2,h3,h4⟩:=h;⟨v,zs,h1,h2,(let ⟨a,c,e,f⟩:=h3;⟨a,c,e,λh=>let ⟨g,e1,e2,e3⟩:=f h;⟨g,e1,wN k.size e2,e3⟩⟩),uf k h4⟩
def HC{pn pc:Nat}(s:V.Tx w ib 0 il I)(t:∀i,0<=I i/\I i<=255)(y:il<=1048576)(u:il<=ic)(z:V.Tab w)(x:l.length<=1048576)(r:Cs 115 #[Sl (Sm pb 0) pn pc,nS] w (λe w'=>∃b,e=Rt b/\Lib.FreshBytes w.heap.size w' b l/\Bw w w')) :
  Cs 76 #[Sl (Sm ib 0) il ic,Iv q,Sl (Sm pb 0) pn pc] w (Bd I (Ky l) il l.length q w):=by
 have f:=ua r;have j:=ua s;have d:=ua t;have m:=ua z;go_enter func76,ntmps76;go_wp2_with fail;refine f.mono ?_;rintro e W ⟨b,rfl,o,k⟩;obtain⟨a,c,rfl,p⟩:=ZG o;have K:=ua k;have n:=ua (ul0 (q:=q) (mc:=c) (j.q k) d y u p x (m.on k));go_wp2_with fail;refine n.mono ?_;intro e W2 h;have g:=ua (h.a K);obtain⟨v,zs,rfl,_⟩:=h;go_wp2;go_ret;exact g
def HH{na:Oa}{a nc pc:Nat}(m:V.Tx w ib 0 il I)(n:∀i,0<=I i/\I i<=255)(s:il<=1048576)(p:il<=ic)(u:V.Tab w)(j:0<a)(r:a<=1048576)(t:w.cell? (Ad pb 0)=some (Sl na a nc))(d:wB Q .u8 w na a N)(k:Fe a N) :
  Cs 76 #[Sl (Sm ib 0) il ic,Iv q,Sl (Sm pb 0) 1 pc] w (Bd I N il a q w):=by
 rcases d with h|⟨b,o,rfl,_,d⟩
 ·omega
 have e:(Cf a N).length=a:=by simp[Cf]
 have g:∀i,i<a->(Cf a N)[i]?=some (UInt8.ofNat (N i).toNat):=λi c=>by simp[Cf,c]
 have f:∀i,i<a->((UInt8.ofNat (N i).toNat).toNat:Int)=N i:=λi c=>Vm (k i c)
 have:=HC (w:=w) (q:=q) (l:=Cf a N) (pb:=pb) (pn:=1) (pc:=pc) m n s p u (by rw[e];exact r) (V.Tryz.iX pb 0 pc (Ad b o) nc (Cf a N) nS w (by rw[e];exact t) (λi x c=>by
  have hi':i<a:=by have:=(zT.1 c).1;rw[e]at this;exact this
  rw[g i hi']at c;cases c;rw[f i hi',show((Ad b o):Addr).add i=(Ad b (o+i)) by by_cases h:i=0<;>simp[Addr.add,h]];exact d i hi') (by rw[e];exact j) (by rw[e];omega))
 rw[e]at this;refine this.mono λv w' h=>h.e λi c=>?_
 unfold Ky;rw[Cx,g i c];exact f i c
def HD{a:Oa}{c:Nat}(d:wB Q .u8 w a l.length (Ky l))(g:0<l.length):Lib.HoldsBytes w (Sl a l.length c) l:=by
 rcases d with h|⟨b,o,rfl,_,d⟩
 ·omega
 refine⟨_,c,rfl,λe=>by (cases e),λa e i x f=>?_⟩;cases e;have hi':=(zT.1 f).1;rw[show((Ad b o):Addr).add i=(Ad b (o+i)) by by_cases h:i=0<;>simp[Addr.add,h],d i hi'];unfold Ky;rw[Cx,f];rfl
def ZI{l2:List UInt8}{d f:Oa}{g j pc:Nat}{k:Np}(r:V.Tx w ib 0 il I)(s:∀i,0<=I i/\I i<=255)(y:il<=1048576)(t:il<=ic)(C:V.Tab w)(m:0<l.length)(n:0<l2.length)(u:l.length+l2.length<=1048576)(B:2<=pc)(z:w.cell? (Ad pb 0)=some (Sl d l.length g))(A:w.cell? (Ad pb 1)=some (Sl f l2.length j))(o:wB Q .u8 w d l.length (Ky l))(p:wB k .u8 w f l2.length (Ky l2)) :
  Cs 76 #[Sl (Sm ib 0) il ic,Iv q,Sl (Sm pb 0) 2 pc] w (Bd I (Ky (l++l2)) il (l++l2).length q w):=by
 have e:Lib.join [l,l2] []=l++l2:=by simp[Lib.join,List.intercalate]
 have:=V.Tryz.iW pb 0 2 pc [Sl d l.length g,Sl f l2.length j] [l,l2] nS [] w rfl wF ⟨rfl,λi v b=>?_,λi v x b c=>?_⟩ B ⟨none,0,rfl,λ_=>rfl,λa e=>by cases e⟩ dC (by simp[Lib.lens];omega)
 ·rw[e]at this;exact HC r s y t C (by rw[wK];exact u) this
 ·rw[show((Ad pb 0):Addr).add i=(Ad pb i) by by_cases h:i=0<;>simp[Addr.add,h]];match i,b with
  |0,b=>cases b;exact z
  |1,b=>cases b;exact A
 match i,b,c with
 |0,b,c=>cases b;cases c;exact HD o m
 |1,b,c=>cases b;cases c;exact HD p n
end
end
open M (OpD uh Gr uw)
def R9{ι:Type}{F:ι->World}{w}{f:FuncId}{args:Av}{n:ι}{v:Bool}(a:Bw w (F n))(b:∀W,Bw w W->∃n,W=F n)(h:Cs f args (F n) (Od v (F n))):Cs f args (F n) λe c=>e=Rt (.bool v)/\∃m,c=F m :=
 h.mono λe W q=>⟨q.1,b W (uf a q.2)⟩
def xz{s:wD}{n:Nat}{S:Nat->Int}:(s.m n S).st=s.st:=by unfold wD.m;split<;>(try split)<;>rfl
def qP{s:wD}{n:Nat}{S:Nat->Int}:(s.m n S).a=s.a:=by unfold wD.m;split<;>(try split)<;>rfl
def AM{s:wD}{n:Nat}{S:Nat->Int}:(s.m n S).e=s.e:=by unfold wD.m;split<;>(try split)<;>rfl
def MF(s:wD)(n:Nat)(S:Nat->Int):s.nx.m n S=(s.m n S).nx:=by
 unfold wD.m;show(if s.h<s.c then _ else if s.c=s.h then _ else _)=_;split
 ·rfl
 split<;>rfl
def wO.l{K L w w' b s s' g il ic mO i j la lc}(h:wO K L w b s g il ic mO i j la lc)(f:Kept (λx=>x=b) w w')(m:s'.st=s.st)(k:s'.a=s.a)(n:wY w' b s' g il ic mO i s.st.length j la s.a.length lc):wO K L w' b s' g il ic mO i j la lc:=by
 refine⟨by rw[m,k];exact n,?_,?_,λx c=>wX (h.lt x c) f.h,h.kl,h.kb,h.lb⟩
 ·rw[m];exact h.st.on (λx c=>f.d x (h.lt x (.inl c)) (λe=>h.kb (e▸c)))
 rw[k];exact h.a.on (λx c=>f.d x (h.lt x (.inr c)) (λe=>h.lb (e▸c)))
def S1 K L Q Q' b s x sa sc p il ic I mO j o la lc w(hA:wO K L w b s.nx p il ic mO j o la lc)(hp:AP mO s)(hx:x.e=0)(hS:wB Q .i64 w sa x.sl x.set)(ae:x.sl<=1048576)(hI:wB Q' .u8 w p il I)(hB:Fe il I)(ao:il<=1048576)(hq:¬Q b)(ai:∀y,Q y->y<w.heap.size) :
  Cs 175 #[.pointer (Sm b 0),kL x sa sc] w (wE (s.q x il I mO) K L b p il ic mO w):=by
 have HA:=ua hA;have g:Hid (AP mO s):=hp;have HS:=ua hS;have HI:=ua hI;have aj:=ua hB;have HQ:=ua hq;have af:=ua ai;unfold kL;have HE:Hid (s.q x il I mO=s.u x.sl x.set il I):=by
  show _=_;unfold wD.q;simp only[hx];simp
 obtain⟨T,hT⟩:∃T,s.q x il I mO=T:=⟨_,rfl⟩;have HT:Hid (T=s.u x.sl x.set il I):=by show _=_;rw[<-hT,HE.o]
 rw[hT];clear hA hp hx hS hI hB hq ai hT HE;go_enter func175,ntmps175;go_wp2;have hX:=uk w (Oc #[Iv x.e,Iv x.f,Iv x.to,Sl sa x.sl sc] 202);have x3:(w.alloc (Oc #[Iv x.e,Iv x.f,Iv x.to,Sl sa x.sl sc] 202)).cell? (Ad w.heap.size 3)=some (Sl sa x.sl sc):=cN w.heap.size rfl rfl;generalize w.alloc (Oc #[Iv x.e,Iv x.f,Iv x.to,Sl sa x.sl sc] 202)=X at *;have HX:=ua hX;have Y:=ua (HA.q hX);have aw:=ud x3;have an:=ua x3;obtain⟨ι,aq,F,S,ad⟩:=Wi X;have f3:∀n,(F n).cell? (Ad b 3)=some (Iv s.c):=λn=>ue Y.c.c3 (S n)
 have f0:∀n,(F n).cell? (Ad b 0)=some (Sl p il ic):=λn=>ue Y.c.c0 (S n)
 have g3:∀n,(F n).cell? (Ad w.heap.size 3)=some (Sl sa x.sl sc):=λn=>ue x3 (S n)
 have HC:=ua (ad _ (wI X).drew);have O:=ua S;have HF':=ua ad;clear S ad hX x3;by_cases aa:s.c<il
 ·have au:s.c<=1048576:=oM;obtain⟨ib,B,rfl,ap,ag⟩:=HI.resolve_left oM;have i0:∀n,(F n).cell? (Ad ib (B+s.c))=some (Bv (I s.c)):=λn=>ue (ue (ag s.c aa) HX) (O n)
  have ak:=aj s.c aa;have hlt':(s.c:Int)<(il:Int):=oM;obtain⟨u,hu⟩:=nm (I s.c);rw[hu]at ak i0;have HU:Hid (I s.c=u):=hu;obtain⟨hh,ah⟩:=nm (ve x.sl x.set u);have HH:Hid (ve x.sl x.set u=hh):=ah;clear hu ah ag;refine vY F rR rR HC ?_;repeat (go_big_quiet_step (first|(go_at_call 203;exact R9 (O _) HF' (P8 Q sa x.sl sc x.set u _ ae ((HS.q HX).q (O _))))))
  refine wpQuiet_nil ?_;rintro _ ⟨C,rfl⟩;have v3:=g3 C;have U:=O C;have r:=ua (Y.q U);have Z:Hid (Bw w (F C)):=uf HX U;generalize F C=V at *;have am:=ud v3;rw[HH.o];cases hh with
  |true =>
   have A:Hid (T={ s with c:=s.c+1,f:=s.f+1 }):=by
    show _=_;rw[HT.o];unfold wD.u;rw[Zp ⟨aa,by rw[HU.o];exact HH.o⟩]
   have d3:V.cell? (Ad b 3)=some (Iv s.c):=r.o.c.c3;have e3:=r.o.c.fz 3;have av:=r.o.bl;clear HT HH v3;go_wp2;go_ret;rw[A.o];have h3:wO K L (V.setCell (Ad b 3) (Iv ((s.c:Int)+1))) b { s with c:=s.c+1,f:=s.f+1 } (Sm ib B) il ic mO j o la lc:=by
    have h:=r.o.k (s':={ s with c:=s.c+1,f:=s.f+1 }) ((Bk.e _ V).set b 3 (Iv ((s.c+1:Nat):Int)) rfl) rfl rfl (r.o.c.f (s.c+1));rw[Mf,Int.natCast_one]at h;exact h
   exact KK h3 (vm (vG (Kept.of Z.o) 3) (λy h=>.inr (.inr h))) g.o.e
  |false =>
   have P:Hid (T=(if s.l then s else s.m x.sl x.set).fail):=by
    show _=_;rw[HT.o];unfold wD.u;rw[Zn (λq=>by have:=q.2;rw[HU.o,HH.o]at this;cases this)]
   go_wp2_with fail;refine(jJ K L b s.nx (Sm ib B) il ic mO j o la lc r g.d).mono ?_;rintro e V2 ⟨rfl,H⟩;rw[show s.nx.l=s.l from rfl];have E:=ua (r.q H);have z:=ua (uf Z H);have y3:=ue v3 H;have al:=ud y3;cases N:s.l with
   |true =>
    have A:Hid (T=s.fail):=(by show _=_;rw[P.o,N,Zp rfl]);clear N;go_wp2_with fail;refine(jo K L b s.nx (Sm ib B) il ic mO j o la lc E g.d g.e g.b g.a).mono ?_;rintro e G i;obtain⟨J,i⟩:=i;subst J;have D:Hid (wE (wD.fail s.nx) K L b (Sm ib B) il ic mO _ _ G):=⟨rfl,i⟩;clear i;go_wp2;go_ret;rw[A.o];exact(D.below z).fail
   |false =>
    have A:Hid (T=(s.m x.sl x.set).fail):=(by show _=_;rw[P.o,N,Zn dC]);clear N;go_wp2_with fail;refine(LJ Q b s.nx (Sm ib B) il ic mO j s.st.length o la s.a.length lc sa x.sl sc x.set _ E.c (HS.q z) HQ (λy hy=>wX (af y hy) z.size) ae).mono ?_;rintro e R t;obtain⟨v,rfl⟩:=t.k;have ab:Hid (wO K L R b (wD.nx (s.m x.sl x.set)) (Sm ib B) il ic mO j o la lc):=by
     have W:=t.c;rw[MF]at W;exact E.l t.l (xz) (qP) W
    have ac:Hid (Kept (λy=>K y\/L y\/y=b) w R):=vm (yC (Kept.of z.o) t.l) (λy h=>.inr (.inr h));clear t;go_wp2_with fail;refine(jo K L b (wD.nx (s.m x.sl x.set)) (Sm ib B) il ic mO j o la lc ab (by rw[show(wD.nx (s.m x.sl x.set)).st=s.st from xz];exact g.d) (by rw[show(wD.nx (s.m x.sl x.set)).e=s.e from AM];exact g.e) (by rw[show(wD.nx (s.m x.sl x.set)).st=s.st from xz,show(wD.nx (s.m x.sl x.set)).a=s.a from qP];exact g.b) (by rw[show(wD.nx (s.m x.sl x.set)).st=s.st from xz];exact g.a)).mono ?_;rintro e G i;obtain⟨J,i⟩:=i;subst J;have D:Hid (wE (wD.fail (wD.nx (s.m x.sl x.set))) K L b (Sm ib B) il ic mO _ _ G):=⟨rfl,i⟩;clear i;go_wp2;go_ret;rw[A.o];exact(D.a ac).fail
 have hlt':¬(s.c:Int)<(il:Int):=oM;have P:Hid (T=(if s.l then s else s.m x.sl x.set).fail):=by
  show _=_;rw[HT.o];unfold wD.u;rw[Zn (λq=>aa q.1)]
 refine vY F rR rR HC ?_;repeat (go_big_quiet_step (fail))
 refine wpQuiet_nil ?_;rintro _ ⟨C,rfl⟩;have v3:=g3 C;have U:=O C;have r:=ua (Y.q U);have Z:=ua (uf HX U);generalize F C=V at *;have am:=ud v3;go_wp2_with fail;refine(jJ K L b s.nx p il ic mO j o la lc r g.d).mono ?_;rintro e V2 ⟨rfl,H⟩;rw[show s.nx.l=s.l from rfl];have E:=ua (r.q H);have z:=ua (uf Z H);have y3:=ue v3 H;have al:=ud y3;cases N:s.l with
 |true =>
  have A:Hid (T=s.fail):=by show _=_;rw[P.o,N,Zp rfl]
  go_wp2_with fail;refine(jo K L b s.nx p il ic mO j o la lc E g.d g.e g.b g.a).mono ?_;rintro e G i;obtain⟨J,i⟩:=i;subst J;have D:Hid (wE (wD.fail s.nx) K L b p il ic mO _ _ G):=⟨rfl,i⟩;go_wp2;go_ret;rw[A.o];exact(D.below z).fail
 |false =>
  have A:Hid (T=(s.m x.sl x.set).fail):=by show _=_;rw[P.o,N,Zn dC]
  go_wp2_with fail;refine(LJ Q b s.nx p il ic mO j s.st.length o la s.a.length lc sa x.sl sc x.set _ E.c (HS.q z) HQ (λy hy=>wX (af y hy) z.size) ae).mono ?_;rintro e R t;obtain⟨v,rfl⟩:=t.k;have ab:Hid (wO K L R b (wD.nx (s.m x.sl x.set)) p il ic mO j o la lc):=by
   have W:=t.c;rw[MF]at W;exact E.l t.l (xz) (qP) W
  have ac:Hid (Kept (λy=>K y\/L y\/y=b) w R):=vm (yC (Kept.of z.o) t.l) (λy h=>.inr (.inr h));go_wp2_with fail;refine(jo K L b (wD.nx (s.m x.sl x.set)) p il ic mO j o la lc ab (by rw[show(wD.nx (s.m x.sl x.set)).st=s.st from xz];exact g.d) (by rw[show(wD.nx (s.m x.sl x.set)).e=s.e from AM];exact g.e) (by rw[show(wD.nx (s.m x.sl x.set)).st=s.st from xz,show(wD.nx (s.m x.sl x.set)).a=s.a from qP];exact g.b) (by rw[show(wD.nx (s.m x.sl x.set)).st=s.st from xz];exact g.a)).mono ?_;rintro e G i;obtain⟨J,i⟩:=i;subst J;have D:Hid (wE (wD.fail (wD.nx (s.m x.sl x.set))) K L b p il ic mO _ _ G):=⟨rfl,i⟩;go_wp2;go_ret;rw[A.o];exact(D.a ac).fail
section
open M (OpD uh Gr)
def bs(z:LI):List Value:=z.map (Value.int .u8)
def RX z:(bs z).length=z.length:=zN ..
structure Hr(N:Nat)(W:Wl)(v:Vl)(z:LI):Prop where
 r:wC (λb=>N<=b) W v 1 z.length (bs z)
 le:N<=W.heap.size
section
variable {Q:Np} {w W W0:Wl} {v yv:Vl} {z y:LI} {B U N:Nat}
def Hr.nil(k:N<=W.heap.size):Hr N W nS []:=⟨.inl ⟨rfl,rfl,rfl⟩,k⟩
def Hr.a(h:Hr N W v z):∃a c,v=Sl a z.length c:=uq h.r
def Hr.on{C:Np}(h:Hr N W0 v z)(k:wA C W0 W)(p:∀b,N<=b->¬C b):Hr N W v z:=by
 refine⟨?_,wN h.le k.h⟩;rcases h.r with h|⟨g,cap,e,l,m,n,o,f⟩
 ·exact .inl h
 refine .inr ⟨g,cap,e,l,m,n,?_⟩;by_cases s:0<cap
 ·obtain⟨u,q⟩:=Dt.1 (f 0 oM).1;have i:=k.d g (ud q) (p g l);exact⟨λj c=>(zI (a:=(Ad g j)) i).trans (o j c),λj c=>by rw[zI (a:=(Ad g j)) i];refine⟨(f j c).1,?_⟩;rw[<-(f j c).2];simp only[World.frozen?,i]⟩
 exact⟨λj c=>by rw[RX]at c;omega,λj c=>oM⟩
def Hr.k(h:Hr N W v z):V.Val N W.heap.size W v z:=by
 rcases h.r with⟨rfl,a,_⟩|⟨g,cap,rfl,f,i,l,d,e⟩
 ·exact⟨none,0,by rw[a],λh=>oM⟩
 have c:V.Tx W g 0 z.length (V.zf z):=λj b=>by
  rw[zL,d j (by rw[RX];exact b)];simp[bs,V.zf,b]
 exact⟨_,cap,rfl,λa=>⟨g,rfl,f,c.lt a,c,λj b=>e j oM⟩⟩
def uq9(h:V.Val B U W yv y):Src prog 1 22 yv y.length (bs y) W:=by
 obtain⟨a,c,rfl,h⟩:=h;by_cases d:0<y.length
 ·obtain⟨g,rfl,_,_,f,_⟩:=h d;have:=V.dJ (c:=c) (M:=V.zf y) (λ_=>rfl) f;rw[show V.lst (V.zf y) y.length=y from List.ext_getElem (by simp[V.lst]) (λi j e=>by simp[V.lst,V.zf,e])]at this;exact this
 obtain rfl:y = []:=Hh oM;have:=V.dJ (w:=W) (a:=a) (b:=0) (off:=0) (m:=0) (c:=c) (M:=V.zf []) (λh=>oM) (λi k=>oM);exact this
def Hr.app(h:Hr N W v z)(m:V.Val B U W yv y)(k:z.length+y.length<=16777216) :
  ∃a c W',(Builtin.append_ #[22,22] 22 #[v,yv]).run prog W=.ok (Sl a (z++y).length c) W'/\Hr N W' (Sl a (z++y).length c) (z++y)/\wA (λb=>N<=b) W W':=by
 obtain⟨n,W',j,i,e,_⟩:=Tn 22 qg h.r (uq9 m) k;obtain⟨a,c,rfl⟩:=uq i;rw[<-wK]at j i;have l:=h.le;refine⟨a,c,W',j,⟨?_,wN l e.h⟩,⟨e.os,e.g,e.f,e.h,e.d⟩⟩;rw[show bs (z++y)=bs z++bs y from Cl ..];exact uA i (λb q=>q.elim id (λq=>oM))
def jO{I N:Nat->Int}{il m:Nat}{q:Int}(h:V.Ans I N il m q y)(e:il<=4000)(g:m<=2000):y.length<=20000:=by
 rcases h with⟨_,rfl⟩|⟨p,L,C,f,rfl,i,a,j,rfl⟩
 ·exact wP
 have b:=a.le;have c:=V.gP I N m f (V.bD I il f) L C;have d:=V.cF I il f;omega
def Wc{g:Gr}{la:Oa}{j:Nat}(h:Bm Q W la g.nb g.d)(i:j<g.nb):∃b off na nc,la=some (Ad b off)/\W.cell? (Ad b (off+j*3))=some (Sl na (g.d j).nl nc)/\wB Q .u8 W na (g.d j).nl (g.d j).f:=by
 rcases h with h|⟨b,off,rfl,_,h⟩
 ·omega
 obtain⟨na,nc,a,e⟩:=(h j i).c.f;exact⟨b,off,na,nc,rfl,a,e⟩
def SC{P:Np}{na:Oa}{nc i:Nat}{L:List Bo}(h:wC P W (Sl na L.length nc) 5 L.length (L.flatMap Ck)){d:Bo}(a:L[i]?=some d):∃b,na=some (Ad b 0)/\P b/\∀j,j<5->W.cell? (Ad b (i*5+j))=(Ck d)[j]?:=by
 have q:=(zT.1 a).1;rcases h with⟨_,n,_⟩|⟨g,cap,e,k,c,o,f,p⟩
 ·omega
 refine⟨g,by injection e,k,λj s=>?_⟩;have t:=c;rw[f _ oM];have m:∀(L:List Bo) (i:Nat),L[i]?=some d->(L.flatMap Ck)[i*5+j]?=(Ck d)[j]?:=by
  intro L;induction L with
  |nil=>intro i h;simp at h
  |cons x r l =>
   intro i h;rw[Dj];cases i with
   |zero=>simp at h;subst h;rw[Ge,zL,Cr (by simp[Ck];omega)]
   |succ i=>rw[Di (by simp[Ck];omega)];simp only[Wx];rw[show(i+1)*5+j-5=i*5+j by omega];exact l i (by simpa using h)
 exact m L i a
def DD args w:(callFunc 76 args).run prog w=.ok (.enter 76 args) w:=by simp[callFunc,func76,f76,go_sem]
structure Ce(g:Gr)(il:Nat)(I:Nat->Int)(L:List Bo)(N i k:Nat)(z:LI)(tv:Vl)(W:Wl):Prop where
 a:Tel g il I (L.take i) k z
 le:k<=i
 c:z.length<=20000*k/\z.length<=400000
 y:Hr N W tv z
def Ce.d{g:Gr}{il:Nat}{I:Nat->Int}{L:List Bo}(h:N<=W.heap.size):Ce g il I L N 0 0 [] nS W:=⟨.nil,wF,⟨wP,wP⟩,Hr.nil h⟩
def Ce.skip{g:Gr}{il:Nat}{I:Nat->Int}{L:List Bo}{i k:Nat}{b:Vl}{d:Bo}(h:Ce g il I L N i k z b W)(f:L[i]?=some d)(j:d.e≠1):Ce g il I L N (i+1) k z b W :=
 ⟨by rw[Hu,f];exact .skip h.a j,by have:=h.le;omega,h.c,h.y⟩
def Ce.more{g:Gr}{il:Nat}{I:Nat->Int}{L:List Bo}{i k:Nat}{b:Vl}{d:Bo}(h:Ce g il I L N i k z b W)(j:L[i]?=some d)(l:d.e=1)(f:20<=k):Ce g il I L N (i+1) (k+1) z b W :=
 ⟨by rw[Hu,j];exact .more h.a l f,by have:=h.le;omega,⟨by have:=h.c.1;omega,h.c.2⟩,h.y⟩
def Ce.one{g:Gr}{il:Nat}{I:Nat->Int}{L:List Bo}{i k:Nat}{p b:Vl}{d:Bo}{W':Wl}(h:Ce g il I L N i k z p W)(m:L[i]?=some d)(n:d.e=1)(j:k<20)(l:V.Ans I (g.d d.f.toNat).f il (g.d d.f.toNat).nl d.a y)(q:y.length<=20000)(o:Hr N W' b (z++y)):Ce g il I L N (i+1) (k+1) (z++y) b W' :=
 ⟨by rw[Hu,m];exact .one h.a n j l,by have:=h.le;omega,by have:=h.c.1;rw[wK];constructor<;>omega,o⟩
def Ce.on{g:Gr}{il:Nat}{I:Nat->Int}{L:List Bo}{i k:Nat}{d:Vl}{C:Np}(h:Ce g il I L N i k z d W0)(f:wA C W0 W)(e:∀b,N<=b->¬C b):Ce g il I L N i k z d W:=⟨h.a,h.le,h.c,h.y.on f e⟩
end
end
section
open M (OpD uh Gr)
section
variable {P Q:Np} {g:Gr} {ra la na:Oa} {rc lc ib il ic n nc:Nat} {I:Nat->Int} {L:List Bo} {W:Wl}
def Su(g:Gr)(il:Nat)(I:Nat->Int)(L:List Bo)(X:Wl)(n:Nat)(b c a:Vl)(wr:Wl):Prop :=
 ∃i k z,i<=n/\a=Iv ((i:Nat):Int)/\b=Iv ((k:Nat):Int)/\Ce g il I L X.heap.size i k z c wr/\Kf X wr
def utY(g:Gr)(il:Nat)(I:Nat->Int)(L:List Bo)(W:Wl)(e:Ending)(w':Wl):Prop:=∃k a z,e=Rt (.tuple #[Iv ((k:Nat):Int),a])/\Tel g il I L k z/\V.Val W.heap.size w'.heap.size w' a z/\Bw W w'
def utZ(hV:M.Valid g)(hG:Bm Q W la g.nb g.d)(hI:V.Tx W ib 0 il I)(hb:∀i,0<=I i/\I i<=255)(a3:il<=4000)(hc:il<=ic)(ht:V.Tab W)(hN:wC P W (Sl na L.length nc) 5 L.length (L.flatMap Ck))(hn:L.length=n)(a6:n<=1000000)(hm:∀(i:Nat) (d:Bo),L[i]?=some d->d.e=1->0<=d.f/\d.f<g.nb) :
  Cs 75 #[.agg #[Sl ra g.nr rc,Sl la g.nb lc],Sl (Sm ib 0) il ic,Sl na n nc] W (utY g il I L W):=by
 have HV:=ua hV;generalize hX:W.alloc (Oc #[Sl ra g.nr rc,Sl la g.nb lc] 37)=X;have r:Hid (Bw W X):=hX▸wG _;have GX:Hid (wJ X W.heap.size #[Sl ra g.nr rc,Sl la g.nb lc]):=hX▸Cm;have HG:=ua (hG.q r.o);have HI:=ua (hI.q r.o);have HT:=ua (ht.on r.o);have HN:=ua (yx hN oM r.o);have ak:=ua hb;have HM:=ua hm;have HL:=ua hn;have ac:Hid (Su g il I L X n (Iv 0) nS (Iv 0) X):=⟨0,0,[],wP,rfl,rfl,Ce.d wF,zM⟩;clear hG hI ht hN hb hm hn;go_enter func75,ntmps75;go_wp2;go_loopw [6,7,12] (λkv tv iv wr=>Su g il I L X n kv tv iv wr) (λ_ _ iv _=>n-(intOf iv).toNat)
 ·exact ac.o
 clear ac hX;obtain⟨i,k,z,hi,rfl,rfl,R,N⟩:=hrel;obtain⟨Y,Z,ax⟩:=R.y.a;subst ax;have J:=ua R;have HK:=ua N;by_cases a5:i<n
 ·have hlt':(i:Int)<(n:Int):=oM;obtain⟨d,hd⟩:∃d,L[i]?=some d:=⟨_,zG (oH HL.o)⟩;have H:=ua hd;obtain⟨nb,rfl,aw,v⟩:=SC (yx HN.o oM N.u) hd;have n0:=v 0 oM;have n1:=v 1 oM;have n2:=v 2 oM;have n3:=v 3 oM;have n4:=v 4 oM;simp only[Ck,List.getElem?_cons_zero,List.getElem?_cons_succ,Cc]at n0 n1 n2 n3 n4;generalize O:wr.alloc (Oc #[Iv d.e,Iv d.f,Iv d.a,Iv d.to,Iv d.b] 54)=l;have kN:Kf wr l:=O▸wU;have BN:Hid (wJ l wr.heap.size #[Iv d.e,Iv d.f,Iv d.a,Iv d.to,Iv d.b]):=O▸Cm;have A:=ua (J.o.on kN (λ_ _ q=>q));have m:=ua (HK.o.c kN);have a4:=J.o.le;obtain⟨bz,bp,bl⟩:=BN.o.x;clear v aw hd R N kN;by_cases p:d.e=1
  rotate_left
  ·have hk':(d.e==1)=false:=(by simp[p]);have aa:Hid (Su g il I L X n (Iv k) (Sl Y z.length Z) (Iv ((i:Int)+1)) l):=⟨i+1,k,z,oM,sM,rfl,A.o.skip H.o p,m.o⟩;clear p;go_wp2;go_roundw
   ·exact aa.o
   simp[intOf];omega
  obtain⟨q0,q1⟩:=HM.o i d H.o p;have hk':(d.e==1)=true:=by simp[p]
  have ab:=ua p;obtain⟨j,hj⟩:∃j:Nat,d.f=(j:Int):=⟨d.f.toNat,oM⟩;have ae:j<g.nb:=oM;have HJ:Hid (d.f.toNat=j):=by rw[hj];rfl
  rw[hj]at n1 BN bz O;clear p hj q0 q1;by_cases av:k<20
  rotate_left
  ·have h20':¬(k:Int)+1<=20:=oM;have aa:Hid (Su g il I L X n (Iv ((k:Int)+1)) (Sl Y z.length Z) (Iv ((i:Int)+1)) l):=⟨i+1,k+1,z,oM,sM,sM,A.o.more H.o ab.o oM,m.o⟩;go_wp2;go_roundw
   ·exact aa.o
   simp[intOf];omega
  have h20':(k:Int)+1<=20:=oM;obtain⟨ba,bb,ah,ai,rfl,a9,af⟩:=Wc (HG.o.q m.o.u) ae;have S:=HV.o.ln j ae;obtain⟨au,a2,a1⟩:=(GX.o.on m.o.u).x;have y2:=bz 2;have y1:=bz 1;have g1:=au 1;simp at y1 y2 g1;generalize ad:l.drew.alloc (Oc #[Sl ah (g.d j).nl ai] 22)=B;have w:Bw l B:=ad▸uf (wI l).drew (wG _);have ap:=ua w;have p7:B.cell? (Ad l.heap.size 0)=some (Sl ah (g.d j).nl ai):=ad▸(uV l.drew _ _ l.heap.size rfl).x.1 0;have DG:=ua (HH (ic:=ic) (q:=d.a) (pc:=1) (HI.o.q (uf m.o.u w)) ak.o oM hc (HT.o.on (uf m.o.u w)) S.2.2.1 (oH S.1) p7 (af.q w) (λi hi=>jN (S.2.1 i hi)));have a7:=S.1;have hjn':(j:Int)<(g.nb:Int):=oM;have aq:Hid (∀(o:Wl) (G:Vl) (y:LI),V.Ans I (g.d j).f il (g.d j).nl d.a y->V.Val B.heap.size o.heap.size o G y->Bw B o->∃D E C,Hid ((Builtin.append_ #[22,22] 22 #[Sl Y z.length Z,G]).run prog o=.ok (Sl D (z.length+y.length) E) C)/\Hid (Su g il I L X n (Iv ((k:Int)+1)) (Sl D (z.length+y.length) E) (Iv ((i:Int)+1)) C)):=λo G y t T U=>by
   have s:=uf ap.o U;obtain⟨D,E,C,ag,t8,F⟩:=(A.o.y.on (wA.i s (λ_ q _=>q)) (λ_ _ q=>q)).app T (by have:=jO t oM oM;have:=A.o.c.2;omega);have T8:=A.o.one H.o ab.o av (by rw[HJ.o];exact t) (jO t oM oM) t8;rw[wK]at ag T8;have z1:=m.o.h;have z2:=s.size;exact⟨D,E,C,ag,⟨i+1,k+1,z++y,oM,sM,sM,T8,⟨F.os.trans (s.os.trans m.o.os),F.g.trans (s.tape.trans m.o.g),F.f.trans (s.output.trans m.o.f),by have:=F.h;omega,λx hx _=>(F.d x oM oM).trans ((s.block x oM).trans (m.o.d x hx id))⟩⟩⟩
  obtain⟨b7,a0,az⟩:=(BN.o.on w).x;clear af w;generalize (g.d j).nl=bc at *;go_upto_region 7 with fail;clear O n0 n1 n2 n3 n4;go_region_law (first
   |(refine yp DD rfl #[.tmp 24,.tmp 26,.tmp 34] #[22,3,73] rfl (ys:=#[Sl (Sm ib 0) il ic,Iv d.a,Sl (Sm l.heap.size 0) 1 1]) (by simp[Act.eval,Act.put]) (DG.o.mono ?_);rintro e o ⟨G,y,rfl,t,T,U⟩;obtain⟨D,E,C,al,am⟩:=aq.o o G y t T U;obtain⟨ya,yc,ay,_⟩:=T;subst ay;clear t U;refine⟨_,rfl,?_⟩)
   |(refine Pn rfl (.tmp 23) (.tmp 35) rfl (by simp[Act.eval,Act.put]) (by simp[Act.eval,Act.put]) al.o ?_))
  all_goals go_wp2
  all_goals go_roundw
  all_goals first|exact am.o|(simp[intOf];omega)
 obtain rfl:i=n:=oM;have hlt':¬(i:Int)<(i:Int):=oM;have an:Hid (Tel g il I L k z):=by have:=J.o.a;rw[Jo (oH HL.o)]at this;exact this
 have ao:Hid (V.Val W.heap.size wr.heap.size wr (Sl Y z.length Z) z):=by
  obtain⟨a,c,e,f⟩:=J.o.y.k;exact⟨a,c,e,λh=>let ⟨gg,e1,e2,e3⟩:=f h;⟨gg,e1,wN r.o.size e2,e3⟩⟩
 have aj:=ua (uf r.o HK.o.u);clear R N;go_wp2;refine wL (by simp[results,f75,go_sem]) rfl ⟨k,_,z,rfl,an.o,ao.o,aj.o⟩
end
end
end Go.Proofs.YtoihadcablknpaaGreatDoor
