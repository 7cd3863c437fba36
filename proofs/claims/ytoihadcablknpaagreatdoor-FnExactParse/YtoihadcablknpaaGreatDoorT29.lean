import Derived.Test.YtoihadcablknpaaGreatDoorT17
import Derived.Test.YtoihadcablknpaaGreatDoorT11
import Derived.Deep.WholeRow
import Derived.Test.YtoihadcablknpaaGreatDoorT20
set_option linter.unusedVariables false
set_option linter.unusedSimpArgs false
set_option linter.defProp false
set_option maxHeartbeats 40000000
set_option maxRecDepth 100000
namespace Go.Proofs.YtoihadcablknpaaGreatDoor
open Go.RowKit
open Go.Proofs.Tryz
section
open M (OpD uh Gr)
def Fq(b a:Int):List PanicEntry:=[{ v:=.iface 113 (.agg #[Iv b,Iv a]),recovered:=false }]
structure Rv where
 ta:Option Addr
 tc:Nat
 v2:Value
 v3:Value
 v4:Value
 v5:Value
 v6:Value
 v7:Value
 v8:Value
abbrev Pq(t:Tx)(r:Rv)(a:Oa)(i:Int):Array Value:=#[Sl a t.n r.tc,Iv i,r.v2,r.v3,r.v4,r.v5,r.v6,r.v7,r.v8]
def Vx(rb:Nat)(w:Wl)(a:Oa)(t:Tx):Prop:=wB (λb=>b<w.heap.size/\b≠rb) .u8 w a t.n t.T
abbrev KB(rb:Nat)(W W':Wl):Prop:=wA (λb=>b=rb) W W'
structure Sc(rb:Nat)(t:Tx)(r:Rv)(i:Nat)(W:Wl):Prop where
 e:wJ W rb (Pq t r r.ta (i:Nat))
 q:Vx rb W r.ta t
 le:i<=t.n
abbrev rp(rb:Nat):Vl:=.pointer (Sm rb 0)
section
variable {rb:Nat} {t:Tx} {r:Rv} {i j:Nat} {fr:Int} {W W':Wl} {P:Ew}
def xI{w w':Wl}(k:Kf w w'):KB rb w w':=k.l (λb q=>q.elim)
def jU{w W:Wl}(k:KB rb w W)(o:Nat)(v:Vl):KB rb w (W.setCell (Ad rb o) v):=k.c (zP (C:=λb=>b=rb) rfl)
def Vx.m{a:Oa}(h:Vx rb W a t)(k:KB rb W W'):Vx rb W' a t:=(wB.on h (λb c=>k.d b c.1 c.2)).g (λb c=>⟨wX c.1 k.h,c.2⟩)
def Sc.kp(h:Sc rb t r i W)(k:Kf W W'):Sc rb t r i W':=⟨h.e.on k.u,h.q.m (xI k),h.le⟩
def Sc.to(h:Sc rb t r i W)(k:KB rb W W')(a:wJ W' rb (Pq t r r.ta (j:Nat)))(b:j<=t.n):Sc rb t r j W':=⟨a,h.q.m k,b⟩
def Sc.set(h:Sc rb t r i W){x:Int}(c:x=(j:Nat))(a:j<=t.n):Sc rb t r j (W.setCell (Ad rb 1) (Iv x)):=by
 subst c;exact h.to (zP (C:=λb=>b=rb) rfl) (h.e.set 1 _) a
def Sc.at(h:Sc rb t r j W)(c:i<t.n):∃b off,r.ta=some (Ad b off)/\b≠rb/\b<W.heap.size/\∀j,j<t.n->W.cell? (Ad b (off+j))=some (Bv (t.T j)):=by
 rcases h.q with h|⟨b,off,e,a,h⟩
 ·omega
 exact⟨b,off,e,a.2,a.1,h⟩
def CE(h:Sc rb t r i W)(ok:∀W',i<t.n->Sc rb t r (i+1) W'->KB rb W W'->P (Rt (Bv (t.T i))) W')(bad:∀W',t.n<=i->KB rb W W'->P (.panicked (Fq 5 fr)) W') :
  Cs 219 #[rp rb,Iv fr] W P:=by
 have w:=t.le;have v:=h.le;have H:=ua h;have m:=ua ok;have g:=ua bad;obtain⟨z,p,l⟩:=h.e.x;go_enter func219,ntmps219;go_upto_region 1 with fail;by_cases a:i<t.n
 ·obtain⟨b,off,e,o,q,f⟩:=H.at a;have u:=ua (f i a);have hlt':(i:Int)<t.n:=oM;have y:((i:Int)==(t.n:Int))=false:=sO;go_quiet (fail);go_upto_region 4 with fail;have d:=ua ((H.kp (ut W nq)).set (j:=i+1) (x:=(i:Int)+1) sM a);have k:=ua (jU (rb:=rb) (xI (ut W nq)) 1 (Iv ((i:Int)+1)));generalize (W.drewN nq).setCell (Ad rb 1) (Iv ((i:Int)+1))=V at *;obtain⟨z,p,l⟩:=d.e.x;obtain⟨b,off,e,o,q,f⟩:=d.at a;have s:=f i a;have A:IntKind.i64.wrap (((i+1:Nat):Int)-1)=(i:Int):=by rw[show((i+1:Nat):Int)-1=i by omega];exact Nn oM oM
  rw[e]at z;go_quiet (fail);go_wp2;exact m _ a (d.kp (ut _ _)) (k.c (xI (ut _ _)))
 obtain rfl:i=t.n:=oM;go_quiet (fail);go_wp2;exact⟨rfl,g _ wF (xI (ut _ _))⟩
def CF{c:Int}(h:Sc rb t r i W)(yes:∀W',i<t.n->t.T i=c->Sc rb t r (i+1) W'->KB rb W W'->P (Rt Bt) W')(k:∀W',¬(i<t.n/\t.T i=c)->Sc rb t r i W'->KB rb W W'->P (Rt Bf) W') :
  Cs 192 #[rp rb,Bv c] W P:=by
 have u:=t.le;have s:=h.le;have H:=ua h;have Y:=ua yes;have N:=ua k;obtain⟨z,p,l⟩:=h.e.x;go_enter func192,ntmps192;go_upto_region 1 with fail;by_cases a:i<t.n
 ·obtain⟨b,off,e,m,o,j⟩:=H.at a;have g:=j i a;have hlt':(i:Int)<t.n:=oM;have v:((i:Int)==(t.n:Int))=false:=sO;rw[e]at z;by_cases d:t.T i=c
  ·have f:=ua d;rw[d]at g;go_quiet (fail);go_wp2;exact Y _ a f ((H.kp (ut W _)).set sM a) (jU (xI (ut W _)) _ _)
  have hc':(t.T i != c)=true:=by simpa using d
  go_quiet (fail);go_wp2;exact N _ (λq=>d q.2) (H.kp (ut W _)) (xI (ut W _))
 obtain rfl:i=t.n:=oM;go_quiet (fail);go_wp2;exact N _ (λq=>a q.1) (H.kp (ut W _)) (xI (ut W _))
def PZ{c:Int}(h:Sc rb t r i W)(e:∀W' d j,((d=true/\i<t.n/\t.T i=c/\j=i+1)\/(d=false/\¬(i<t.n/\t.T i=c)/\j=i))->Sc rb t r j W'->KB rb W W'->P (Rt (.bool d)) W'):Cs 192 #[rp rb,Bv c] W P :=
 CF h (λW' a b s k=>e W' true _ (.inl ⟨rfl,a,b,rfl⟩) s k) (λW' a s k=>e W' false _ (.inr ⟨rfl,a,rfl⟩) s k)
def QA c:xw c=if 48<=c/\c<=57 then c-48 else if 97<=c/\c<=102 then c-87 else if 65<=c/\c<=70 then c-55 else -1:=by
 unfold xw Jv;repeat' split
 all_goals simp_all<;>omega
def QB(h:Sc rb t r i W)(ok:∀W' x,i<t.n->xw (t.T i)=x->0<=x->x<=15->Sc rb t r (i+1) W'->KB rb W W'->P (Rt (Bv x)) W')(bad:∀W',(i<t.n->xw (t.T i)<0)->KB rb W W'->P (.panicked (Fq 5 fr)) W') :
  Cs 238 #[rp rb,Iv fr] W P:=by
 have f:=ua ok;have a:=ua bad;go_enter func238,ntmps238;go_wp2_with fail;refine CE h (λV e v k=>?_) (λV e k=>?_)
 rotate_left
 ·go_wp2;exact⟨rfl,a _ (λq=>oM) k⟩
 obtain⟨g,b1⟩:=t.j i;obtain⟨c,d⟩:=nm (t.T i);have b:=ua d;rw[d]at g b1 ⊢;by_cases l:48<=c<;>by_cases m:c<=57<;>by_cases o:97<=c<;>by_cases p:c<=102<;>by_cases s:65<=c<;>by_cases u:c<=70
 all_goals first
  |omega
  |focus
    go_wp2;first
     |exact⟨rfl,a _ (λ_=>by rw[b.o,QA];(repeat rw[Zn oM]);decide) k⟩
     |(show P (Rt (Bv _)) _;exact f _ _ e (by rw[b.o,QA];(repeat' split)<;>omega) oM oM v k)
end
end
section
open M (OpD uh Gr)
def w3:∀h l:Fin 16,bits BinOp.or IntKind.u8 ((h.val:Int)*16) (l.val:Int)=(h.val:Int)*16+l.val:=by decide +kernel
def w4{h l}(a:0<=h)(b:h<=15)(c:0<=l)(d:l<=15):bits BinOp.or IntKind.u8 (h*16) l=h*16+l:=by
 have:=w3 ⟨h.toNat,oM⟩ ⟨l.toNat,oM⟩;simp only[show((h.toNat:Nat):Int)=h by omega,show((l.toNat:Nat):Int)=l by omega]at this;exact this
def Rr(cls:Bool):ByteArray:=if cls then ⟨#[93,45,94,10]⟩ else ⟨#[10]⟩
def Rx(cls:Bool)(c:Int):Prop:=c=10\/(cls=true/\(c=93\/c=45\/c=94))
instance (cls:Bool) (c:Int):Decidable (Rx cls c):=by unfold Rx;infer_instance
def w5 cls:∀c:Fin 256,(0<=Lib.indexByte (Rr cls).data.toList c.val.toUInt8)↔Rx cls (c.val:Int):=by cases cls<;>decide +kernel
def w6 cls{c}(a:0<=c)(b:c<=255):0<=Lib.indexByte (Rr cls).data.toList c.toNat.toUInt8↔Rx cls c:=by
 have:=w5 cls ⟨c.toNat,oM⟩;rwa [show(((⟨c.toNat,oM⟩:Fin 256).val:Nat):Int)=c by simp;omega]at this
section
variable {rb:Nat} {t:Tx} {r:Rv} {i j:Nat} {fr:Int} {W W':Wl} {P:Ew}
def w7(h:Sc rb t r (i+1) W)(X:t.T i=92)(ok:∀W' x n,Gf t i=(x,n+1)->Sc rb t r (i+n+1) W'->KB rb W W'->P (Rt (Bv x)) W')(bad:∀W',Gf t i=(0,0)->KB rb W W'->P (.panicked (Fq 5 fr)) W') :
  Cs 220 #[rp rb,Iv fr] W P:=by
 have w:=ua ok;have f:=ua bad;have J:=ua X;go_enter func220,ntmps220;go_wp2_with fail;refine CE h (λV G v k=>?_) (λV G k=>?_)
 rotate_left
 ·go_wp2;exact⟨rfl,f _ (by unfold Gf;rw[Zp (.inl G)]) k⟩
 have g:Hid (Gf t i=_):=(by unfold Gf;exact Zn (λq=>q.elim (λq=>oM) (λq=>q J)));obtain⟨c,Y⟩:=nm (t.T (i+1));rw[Y]at g ⊢;rcases(show c=110\/c=116\/c=114\/c=92\/c=34\/c=91\/c=93\/c=45\/c=94\/c=120\/(¬c=110/\¬c=116/\¬c=114/\¬c=92/\¬c=34/\¬c=91/\¬c=93/\¬c=45/\¬c=94/\¬c=120) by omega) with rfl|rfl|rfl|rfl|rfl|rfl|rfl|rfl|rfl|rfl|⟨o,j,d,l,B,C,D,E,F,A⟩
 case inr.inr.inr.inr.inr.inr.inr.inr.inr.inl =>
  have m:Hid (Gf t i=if i+3<t.n/\0<=xw (t.T (i+2))/\0<=xw (t.T (i+3)) then (xw (t.T (i+2))*16+xw (t.T (i+3)),4) else (0,0)):=g.o.trans (by simp[Nq]);go_wp2_with fail;refine QB v (λN x o j d l v2 p=>?_) (λN Z p=>?_)
  rotate_left
  ·go_wp2;exact⟨rfl,f _ (m.trans (Zn λq=>by have:xw (t.T (i+2))<0:=Z oM;have:=q.2.1;omega)) (k.c p)⟩
  have I:=ua j;have u:=ua (k.c p);go_wp2_with fail;refine QB v2 (λO y g1 S z U v3 s=>?_) (λO hy s=>?_)
  rotate_left
  ·go_wp2;exact⟨rfl,f _ (m.trans (Zn λq=>by have:xw (t.T (i+3))<0:=hy oM;have:=q.2.2;omega)) (u.c s)⟩
  have H:=ua S;go_wp2;rw[w4 d l z U];have Q:=I;have R:=H;exact w _ _ 3 (m.trans (by rw[Q,R,Zp ⟨oM,d,z⟩])) v3 (u.c s)
 case inr.inr.inr.inr.inr.inr.inr.inr.inr.inr =>
  have L:Hid (Gf t i=(0,0)):=g.o.trans (by simp[Nq,o,j,d,l,B,C,D,E,F,A]);have e:∀a b:Int,¬a=b->(a==b)=false:=λa b h=>by simpa using h
  have:=e _ _ o;have:=e _ _ j;have:=e _ _ d;have:=e _ _ l;have:=e _ _ B;have:=e _ _ C;have:=e _ _ D;have:=e _ _ E;have:=e _ _ F;have:=e _ _ A;go_wp2;exact⟨rfl,f _ L k⟩
 all_goals (
  go_wp2;exact w _ _ 1 g v k)
def BT(cls:Bool)(h:Sc rb t r i W)(H:cls=false->i<t.n->t.T i≠34)(ok:∀W' x n,zH t i cls=(x,n+1)->Sc rb t r (i+n+1) W'->KB rb W W'->P (Rt (Bv x)) W')(bad:∀W',zH t i cls=(0,0)->KB rb W W'->P (.panicked (Fq 5 fr)) W') :
  Cs 193 #[rp rb,Iv fr,.string (Rr cls)] W P:=by
 have z:=ua ok;have d:=ua bad;have B:=ua H;have C:=ua (λ(c:Int) (w:Wl)=>(⟨Any.strings_IndexByte Tryz.lays92 (Rr cls) c w,λF G=>w6 cls F G⟩:_/\(0<=c->c<=255->_)));generalize Rr cls=bs at *;go_enter func193,ntmps193;go_wp2_with fail;refine CE h (λV m v k=>?_) (λV m k=>?_)
 rotate_left
 ·go_wp2;exact⟨rfl,d _ (by unfold zH;rw[Zp (.inl m)]) k⟩
 have l:=t.j i;obtain⟨c,A⟩:=nm (t.T i);have a:=ua A;rw[A]at l ⊢;by_cases g:c=92
 ·subst g;have u:Hid (zH t i cls=Gf t i):=(by show _=_;unfold zH;rw[Zn (by rw[a.o];omega),Zp a.o]);go_wp2_with fail;refine w7 v a (λE x n e v2 o=>?_) (λE e o=>?_)
  ·have e:=ua e;go_wp2;exact z _ _ _ (u.trans e) v2 (k.c o)
  go_wp2;exact⟨rfl,d _ (u.trans e) (k.c o)⟩
 have h92':(c==92)=false:=by simpa using g
 obtain⟨J,p⟩:=C c V;replace p:=p l.1 l.2;generalize Lib.indexByte bs.data.toList c.toNat.toUInt8=q at *;have D:=ua J;have y:=ua p;have s:=ua g;go_wp2_with fail;refine D.mono ?_;rintro e W2 ⟨rfl,L⟩;subst W2;by_cases b:Rx cls c
 ·have I:=Gi (y.o.2 b);have f:Hid (zH t i cls=(0,0)):=(by
   show _=_;unfold zH;rw[a.o,Zn s.o];rcases b with e|e
   ·rw[Zp (.inr e)]
   rw[Zp e];exact ite_self _)
  go_wp2;exact⟨rfl,d _ f k⟩
 have I:=Gv (λq=>b (y.1 q));have f:Hid (zH t i cls=(c,1)):=(by
  show _=_;unfold zH;rw[a.o,Zn (λq=>q.elim oM (λq=>b (.inl q))),Zn s.o,Zn (λq=>b (.inr q)),Zn (λq=>B.o q.1 m (a.o.trans q.2))])
 go_wp2;exact z _ _ 0 f v k
end
end
section
open M (OpD uh Gr)
def uoJ{c W v x b p n m cs news t o e}ty(y:vA t e b p)(h:wC (wM c W) W v b n cs)(C:Src prog b o x m news W)(z:n+m<=16777216)(G:0<m)(D:0<b)(F:c.heap.size<=W.heap.size) :
  ∃i j W',(Builtin.append_ #[t,o] ty #[v,x]).run prog W=.ok (Sl i (n+m) j) W'/\wC (wM c W') W' (Sl i (n+m) j) b (n+m) (cs++news)/\wA (wM c W) W W':=by
 obtain⟨I,w',B,l,a,H⟩:=CR ty y h C z;obtain⟨i,j,rfl⟩:=uq l;refine⟨i,j,w',B,?_,⟨a.os,a.g,a.f,a.h,a.d⟩⟩;rcases l with⟨_,q,_⟩|⟨g,cap,e,A,r,s,w,k⟩
 ·omega
 obtain⟨u,E⟩:=Dt.1 (k 0 (Nat.mul_pos oM D)).1;exact .inr ⟨g,cap,e,⟨A.elim (λq=>q.1) (λq=>wN F q),ud E⟩,r,s,w,k⟩
def Mt{ops:Array Oper}{rest:List Oper}{o:Oper}{a:Act}{b:Exit->Act->World->Prop}{w W':Wl}{t c:TypeId}{v u r:Vl}(e:o.guard=none)(s x:Operand)(f:o.op=.call { callee:=.builtin .append,args:=#[s,x],argTypes:=#[t,c] })(h:a.eval s=v)(i:a.eval x=u)
  (g:(Builtin.append_ #[t,c] o.type #[v,u]).run prog w=.ok r W') (k:wpList prog ops b rest (a.put o.dst r) W'):wpList prog ops b (o::rest) a w:=by
 refine wpList_plain e λK d=>?_
 unfold Oper.wp execOp;simp only[f,resolve,invoke,builtin,Fa,Gc,Gk,Hs,Er,Gl,h,i,g];exact d _ _ k
def Buf(a:Wl)(z:LI)(v:Vl)(W:Wl):Prop:=wC (wM a W) W v 1 z.length (uQ .u8 (lf z) z.length)
def Buf.app{i W z v}(h:Buf i z v W)x(o:z.length<=10000000)(p:i.heap.size<=W.heap.size) :
  ∃a c W',(Builtin.append_ #[22,22] 22 #[v,Sl (Sm W.heap.size 0) 1 1]).run prog (W.alloc (Oc #[Bv x] 5))=.ok (Sl a (z.length+1) c) W'/\Buf i (z++[x]) (Sl a (z.length+1) c) W'/\wA (wM i W) W W':=by
 have n:(W.alloc (Oc #[Bv x] 5)).heap.size=W.heap.size+1:=sM;obtain⟨a,c,W',m,k,j⟩:=uoJ 22 qg (uA (h.on (λb e=>Hg W _ _ e.2)) (Q':=wM i (W.alloc (Oc #[Bv x] 5))) (λb e=>⟨e.1,by have:=e.2;omega⟩)) (Zh W x) oM oM oM oM;refine⟨a,c,W',m,?_,?_⟩
 ·unfold Buf;rw[wK,Bs,<-Zg];exact k
 exact⟨j.os,j.g,j.f,by have:=j.h;omega,λb e l=>(j.d b oM (λq=>l ⟨q.1,e⟩)).trans (Hg W _ _ e)⟩
def kk(k:Int):Int:=if k=110 then 97 else k
def Ic(k:wH)(sa:Oa)(sc:Nat):Vl:=.agg #[Bv (kk k.e),Iv (k.f:Nat),.string (str k.nm.length (lf k.nm)),Sl sa k.set.length sc]
abbrev Hc:Array Value:=#[Bv 0,Iv 0,.string ⟨#[]⟩,nS]
abbrev Sd(W:Wl)(b:Nat)(v0 v1 v2 v3:Vl):Wl:=(((W.setCell (Ad b 0) v0).setCell (Ad b 1) v1).setCell (Ad b 2) v2).setCell (Ad b 3) v3
def QF:Vl->Nat
 |.slice _ n _=>n
 |_=>0
section
variable {rb:Nat} {t:Tx} {r:Rv} {i j:Nat} {fr:Int} {w W W0 W':Wl} {P:Ew} {z:LI} {v:Vl}
def Buf.kb(h:Buf W0 z v W)(c:rb<W0.heap.size)(k:KB rb W W'):Buf W0 z v W' :=
 uA (wC.on h (λb a=>k.d b a.2 (λe=>oH a.1))) (λb a=>⟨a.1,wX a.2 k.h⟩)
def xB{C:Np}(k:wA C w W){b o:Nat}{v:Vl}(i:w.heap.size<=b):wA C w (W.setCell (Ad b o) v) :=
 ⟨k.os,k.g,k.f,by rw[uj];exact k.h,λx c a=>(zJ _ (λe=>by have e':x=b:=e;omega)).trans (k.d x c a)⟩
def utz(k:KB rb W0 W)(a:wA (wM W0 W) W W'):KB rb W0 W':=⟨a.os.trans k.os,a.g.trans k.g,a.f.trans k.f,wN k.h a.h,λb c e=>(a.d b (wX c k.h) (λq=>oH q.1)).trans (k.d b c e)⟩
def CH(b:Sc rb t r i w)(h:Sc rb t r j W)(k:KB rb w W)(v0 v1 v2 v3:Vl):Sc rb t r j (Sd W w.heap.size v0 v1 v2 v3)/\KB rb w (Sd W w.heap.size v0 v1 v2 v3):=by
 have a:=Nat.ne_of_lt b.e.x.2.2;have c:KB rb w (Sd W w.heap.size v0 v1 v2 v3):=xB (xB (xB (xB k wF) wF) wF) wF;exact⟨b.to c ((((h.e.h _ _ _ a).h _ _ _ a).h _ _ _ a).h _ _ _ a) h.le,c⟩
structure Nz(rb:Nat)(t:Tx)(r:Rv)(i:Nat)(W:Wl)(P:Ew):Prop where
 ok:∀W' k j sa sc,vF t i=(k,j)->k.e≠0->Sc rb t r j W'->wB (wM W W') .i64 W' sa k.set.length (lf k.set)->KB rb W W'->P (Rt (Ic k sa sc)) W'
 bad:∀W',(vF t i).1.e=0->KB rb W W'->P (.panicked (Fq 5 (i:Nat))) W'
def QG(a:j<=t.n){cls:Bool}{x:Int}{n:Nat}(h:zH t j cls=(x,n+1)):j+n+1<=t.n:=by
 have:=xO t j cls a;rw[h]at this;simp at this;omega
def QH(rb:Nat)(t:Tx)(r:Rv)(w a:Wl)(R:Option (List Int×Nat))(v:Vl)(wr:Wl):Prop :=
 ∃(f j:Nat) (z:LI),t.n-j<f/\z.length<=j/\Hy t f j z=R/\Sc rb t r j wr/\Buf a z v wr/\KB rb a wr
def uf2(h:Sc rb t r i W)(hi:i<t.n)(L:t.T i=34)(ah:Nz rb t r i W P):Cs 155 #[rp rb] W P:=by
 have hn:=t.le;have ai:=h.e.x.2.2;have H:=ua h;have I:=ua ah;have s:Hid (vF t i=(match Jj t i with|none=>((⟨0,i,[],[]⟩:wH),i)|some (z,j)=>(⟨34,i,z,[]⟩,j))):=(by
  unfold vF;rw[Zn (by rw[L];unfold M.bH;omega),Zp L];cases Jj t i<;>rfl)
 obtain⟨R,m⟩:=nm (Jj t i);rw[m]at s;have HR:=ua m;obtain⟨z0,p0,l0⟩:=h.e.x;go_enter func155,ntmps155;go_wp2;have o:=ua ((jU (wA.e _ W) 1 (Iv ((i:Int)+1))).c (wA.a (λb=>b=rb) _ (Oc Hc 177)));have D:=ua ((H.set (j:=i+1) (x:=(i:Int)+1) sM hi).kp (wA.a _ _ (Oc Hc 177)));have F:=ua (uV (W.setCell (Ad rb 1) (Iv ((i:Int)+1))) Hc 177 W.heap.size (by rw[uj]));generalize (W.setCell (Ad rb 1) (Iv ((i:Int)+1))).alloc (Oc Hc 177)=J at *;have w:=D.e.x.2.2;go_loopw [4] (QH rb t r W J R) (λv _=>t.n+1-QF v)
 ·exact⟨t.n-i,i+1,[],oM,sM,HR,D,.inl ⟨rfl,rfl,rfl⟩,zM⟩
 obtain⟨f,j,z,hf,hz,m,N,O,hk⟩:=hrel;obtain⟨f,rfl⟩:∃q,f=q+1:=⟨f-1,oM⟩;obtain⟨va,vc,rfl⟩:=uq O;have B:=ua m;have E:=ua O;have p:=ua hk;have ag:=N.le;go_wp2_with fail;refine CF N (λW1 l h2 y g=>?_) (λW1 l y g=>?_)
 ·have Z:Hid (R=some (z,j+1)):=(by have:=B;rw[Hy,Zp ⟨l,h2⟩]at this;exact this.symm);have ad:=E.kb w g;have af:=vX _ va z.length vc (lf z) W1 (yE ad);obtain⟨z1,p1,l1⟩:=(F.a ((p.c g).d W.heap.size F.x.2.2 (by show ¬W.heap.size=rb;omega))).x;have V:=ua (CH H y (o.c (p.c g)));obtain⟨U,Q⟩:=nm (str z.length (lf z));rw[Q]at af;have aa:=ua Q;go_wp2;refine wL (v:=.agg #[Bv 34,Iv (i:Nat),.string U,nS]) (by simp[results,f155,go_sem, *]) rfl ?_;obtain⟨f1,f2⟩:=V (Bv 34) (Iv (i:Nat)) (.string U) nS;have:=I.ok _ ⟨34,i,z,[]⟩ (j+1) none 0 (by rw[s.o,Z.o]) (by show(34:Int)≠0;decide) f1 (.inl rfl) f2;rw[Ic,aa.o]at this;exact this
 have C:Hid ((if (zH t j false).2=0 then none else Hy t f (j+(zH t j false).2) (z++[(zH t j false).1]))=R):=(by have:=B;rw[Hy,Zn l]at this;exact this);have ab:=ua (E.kb w g);have u:=ua (p.c g);have X:=ua l;go_wp2_with fail;refine BT false y (λ_ a b=>X ⟨a,b⟩) (λW2 x n e A k=>?_) (λW2 e k=>?_)
 ·have hl:=QG ag e;obtain⟨a,c,W3,hr,ae,S⟩:=(ab.kb w k).app x oM (u.c k).h;have G:=utz (u.c k) S;have ac:Hid (QH rb t r W J R (Sl a (z.length+1) c) W3):=⟨f,j+n+1,z++[x],oM,sO,(by have:=C.o;rw[e]at this;simpa[Eo] using this),H.o.to (o.o.c G) (A.e.a (S.d _ A.e.x.2.2 (λq=>oH q.1))) A.le,ae,G⟩;have Y:=ua hr;go_wp2_with (at_builtin;refine Mt rfl _ _ rfl rfl rfl Y ?_);go_roundw;all_goals first
   |exact ac
   |(simp[QF];omega)
 have HN:Hid (vF t i=(⟨0,i,[],[]⟩,i)):=(by have:=C;rw[e]at this;rw[s.o,<-this];rfl);go_wp2;exact⟨rfl,I.bad _ (by rw[HN.o]) (o.c (u.c k))⟩
def uq3 n T:str n T=str ((List.range n).map T).length (lf ((List.range n).map T)):=by
 unfold str;congr 1;rw[zN,List.length_range];refine Oo λk a=>?_
 rw[Ng]at a;simp[lf,a]
def uq4 t i(a:t.T i≠34)(b:t.T i≠91)(c:¬t.T i∈Ba):vF t i=if M.bH (t.T i) then (⟨110,i,(vO t (t.n-i) i []).1,[]⟩,(vO t (t.n-i) i []).2) else (⟨0,i,[],[]⟩,i+1):=by
 unfold vF;rw[Zn a,Zn b,Zn c]
def QI t:∀(d i:Nat) (z:LI) (f:Nat),(∀k,k<d->i+k<t.n/\yd (t.T (i+k)))->¬(i+d<t.n/\yd (t.T (i+d)))->t.n-i<=f->vO t f i z=(z++(List.range d).map (λk=>t.T (i+k)),i+d)
 |0,i,z,f,_,h,_=>by cases f<;>simp[vO];exact λa b=>absurd ⟨a,b⟩ h
 |d+1,i,z,f,h,h',hf=>by
  have c:i<t.n/\yd (t.T i):=h 0 oM;obtain⟨f,rfl⟩:∃q,f=q+1:=⟨f-1,by have:=c.1;omega⟩;have e:∀k,i+1+k=i+(k+1):=λk=>by omega
  rw[vO,Zp c,QI t d (i+1) _ f (λk g=>e k▸h (k+1) oM) (e d▸h') oM];simp[List.range_succ_eq_map,e,Function.comp_def]
def Lw(rb:Nat)(w:World):Nat:=match w.cell? (Ad rb 1) with|some (.int _ x)=>x.toNat|_=>0
def Sc.f(h:Sc rb t r i W):Lw rb W=i:=by
 unfold Lw;rw[h.e.x.1 1];simp
def QJ(rb:Nat)(t:Tx)(r:Rv)(i:Nat)(a:Wl)(v:Vl)(wr:Wl):Prop :=
 ∃j:Nat,i<=j/\(∀k,i<=k->k<j->k<t.n/\yd (t.T k))/\Sc rb t r j wr/\KB rb a wr
def ujh(h:Sc rb t r i W)(E:i<t.n)(h1:t.T i≠34)(h2:t.T i≠91)(h3:¬t.T i∈Ba)(am:t.n<=r.tc)(aj:Nz rb t r i W P):Cs 157 #[rp rb] W P:=by
 have hn:=t.le;have al:=h.e.x.2.2;have H:=ua h;have U:=ua aj;have bT:=t.j i;have O:=ua (uq4 t i h1 h2 h3);obtain⟨b,off,e,hb,hl,p⟩:=h.at E;have cT:=p i E;have hi':(i:Int)<t.n:=oM;obtain⟨z0,p0,l0⟩:=h.e.x;have u:=ua e;rw[e]at z0;go_enter func157,ntmps157;go_wp2_with fail;have J:=ua (wA.a (λb=>b=rb) W (Oc Hc 177));have HS:=ua (H.kp (wA.a _ _ (Oc Hc 177)));have Q:=ua (um W Hc 177);generalize W.alloc (Oc Hc 177)=X at *;refine(yR (t.T i) bT.1 bT.2).mono ?_;rintro e W1 ⟨⟨rr,rfl,A⟩,hw⟩;subst W1;cases rr with
 |false =>
  have B:Hid (¬M.bH (t.T i)):=λq=>by simpa using A.2 q
  clear A;go_wp2;exact⟨rfl,U.o.bad _ (by rw[O.o,Zn B.o]) J.o⟩
 |true =>
  have B:=ua (A.1 rfl);clear A;go_wp2;go_loopw [42] (QJ rb t r i X) (λ_ wr=>t.n-Lw rb wr)
  ·exact⟨i,wF,(λk a b=>oM),HS.o,zM⟩
  obtain⟨j,ab,aa,y,z⟩:=hrel;have ak:=y.le;have I:=ua aa;have w:=ua y;have R:=ua z;obtain⟨G,p1,l1⟩:=y.e.x;rw[u.o]at G;clear aa y z;rcases(show(j<t.n/\yd (t.T j))\/(j<t.n/\¬yd (t.T j))\/¬j<t.n by by_cases h:j<t.n<;>by_cases D:yd (t.T j)<;>simp[h,D]) with⟨g,o⟩|⟨g,o⟩|g
  case' inl|inr.inl =>
   obtain⟨Y,ad,l,ag,ai,p⟩:=w.o.at g;obtain⟨rfl,rfl⟩:b=Y/\off=ad:=(by rw[u.o]at l;simpa using l);have cT:=p j g;have Z:=t.j j;have hj':(j:Int)<t.n:=oM;have m:=ua (λd r' (h:yd (t.T j)↔r'=true)=>Fz ((yS (t.T j) (wr.drewN d) Z.1 Z.2).mono (R':=λe w'=>e=Rt (.bool r')/\w'=wr.drewN d) (λe W D=>by obtain⟨⟨q,rfl,hq⟩,rfl⟩:=D;exact⟨by rw[Nf.2 (hq.trans h)],rfl⟩)));clear p l
  case inl =>
   have m:=ua (λd=>m.o d true (iff_of_true o rfl));have L:Hid (∀n,QJ rb t r i X Bt ((wr.drewN n).setCell (Ad rb 1) (Iv ((j:Int)+1)))/\Lw rb ((wr.drewN n).setCell (Ad rb 1) (Iv ((j:Int)+1)))=j+1):=λn=>(by
    have s:=(w.o.kp (ut wr n)).set (j:=j+1) (x:=(j:Int)+1) sM g;exact⟨⟨j+1,oM,λk a b=>by rcases Nat.lt_succ_iff_lt_or_eq.1 b with q|rfl;exact I.o k a q;exact⟨g,o⟩,s,jU (R.o.c (xI (ut wr n))) _ _⟩,s.f⟩)
   have HT:=ua w.o.f;clear o;go_upto_region 4 with fail;go_quiet (first|(go_at_call 195;exact m.o _));go_wp2;go_roundw
   ·exact(L.o _).1
   rw[(L.o _).2,HT.o];omega
  case' inr.inl =>
   have m:=ua (λd=>m.o d false (iff_of_false o sM));have N:Hid (¬(j<t.n/\yd (t.T j))):=λq=>o q.2
  case' inr.inr =>
   have N:Hid (¬(j<t.n/\yd (t.T j))):=λq=>g q.1
   have hj':¬(j:Int)<t.n:=oM
  all_goals (
   clear g;go_upto_region 4 with fail;go_quiet (first|(go_at_call 195;exact m.o _));go_upto_region 6 with fail;have C:=ua (w.kp (ut wr nq));have S:=ua (R.c (xI (ut wr nq)));generalize wr.drewN nq=V at *;obtain⟨G,p1,l1⟩:=C.e.x;obtain⟨z2,p2,l2⟩:=(Q.a (S.d W.heap.size Q.x.2.2 (by show ¬W.heap.size=rb;omega))).x;rw[u.o]at G;have q1:(j:Int)<=r.tc:=oM;have q2:¬r.tc=i:=oM;have ah:=vX (λ_=>True) (some ⟨b,off+i,none⟩) (j-i) (r.tc-i) (λk=>t.T (i+k)) V.drew (.inr ⟨b,off+i,rfl,trivial,λk z=>by obtain⟨Y,ad,l,ag,ai,p⟩:=(C.kp (Bz _)).at E;rw[u.o]at l;simp at l;obtain⟨rfl,rfl⟩:=l;rw[Eo];exact p _ oM⟩);have NM:=ua (QI t (j-i) i [] (t.n-i) (λk z=>I (i+k) oM oM) (by rw[Nat.add_sub_cancel' ab];exact N) wF);have ae:=ua (CH H (C.kp (Bz _)) (J.c (S.c (Bz _))));obtain⟨F,ac⟩:=nm (str (j-i) (λk=>t.T (i+k)));rw[ac]at ah;have af:=ua ac;go_region;all_goals go_wp2
   refine wL (v:=.agg #[Bv 97,Iv (i:Nat),.string F,nS]) (by simp[results,f157,go_sem, *]) rfl ?_;obtain⟨f1,f2⟩:=ae (Bv 97) (Iv (i:Nat)) (.string F) nS;have:=U.ok _ ⟨110,i,(List.range (j-i)).map (λk=>t.T (i+k)),[]⟩ j none 0 (by rw[O.o,Zp B.o,NM.o,Nat.add_sub_cancel' ab];rfl) (by show(110:Int)≠0;decide) f1 (.inl rfl) f2;rw[Ic,show str ((List.range (j-i)).map (λk=>t.T (i+k))).length (lf ((List.range (j-i)).map (λk=>t.T (i+k))))=F from uq3 _ _▸af.o]at this;exact this)
end
end
section
open M (OpD uh Gr)
def ufQ:(prog.info? 207).map (λi=>(i.zero,i.size))=some (some (.agg (madeCells #[Bf] 256)),256):=rR
def BS x w(a:0<=x)(b:x<=255):(convert 5 3 (Bv x)).run prog w=.ok (Iv x) w:=by
 have e:IntKind.i64.wrap x=x:=Nn a oM;simp[convert,run_underlying underlying5,run_underlying underlying3,go_sem,e]
section
variable {rb:Nat} {t:Tx} {r:Rv} {i j:Nat} {fr:Int} {w W W0 W':Wl} {P:Ew} {MB:Nat} {m:Nat->Bool}
structure CJ(rb:Nat)(t:Tx)(r:Rv)(w:Wl)(MB j:Nat)(m:Nat->Bool)(W:Wl):Prop where
 sc:Sc rb t r j W
 y:W.rowIs MB 207 256 (λb=>.bool (m b))
 e:wJ W w.heap.size Hc
 kb:KB rb w W
 mb:w.heap.size<MB
 rb:rb<w.heap.size
def CJ.to{b:Nat}(h:CJ rb t r w MB j m W)(s:Sc rb t r b W')(k:KB rb W W'):CJ rb t r w MB b m W' :=
 ⟨s,h.y.of_block (k.d MB h.y.lt (oG h.mb h.rb)),h.e.a (k.d _ h.e.x.2.2 (by have:=h.rb;show ¬w.heap.size=rb;omega)),h.kb.c k,h.mb,h.rb⟩
def OV(rb:Nat)(t:Tx)(r:Rv)(w:Wl)(a:Nat)(b:Option ((Nat->Bool)×Nat))(v:Vl)(wr:Wl):Prop :=
 ∃(f j:Nat) (m:Nat->Bool),t.n-j<f/\xf t f j m=b/\CJ rb t r w a j m wr
def OW(rb:Nat)(t:Tx)(r:Rv)(w:Wl)(a:Nat)(m:Nat->Bool)(j lo b:Nat)(v:Vl)(wr:Wl):Prop :=
 ∃k:Nat,lo<=k/\k<=b+1/\v=Iv (k:Nat)/\CJ rb t r w a j (kK m lo k) wr
def OX{cls:Bool}{x:Int}{n:Nat}(a:j<=t.n)(h:zH t j cls=(x,n+1)):0<=x/\x<=255:=by
 have:=xO t j cls a;rw[h]at this;simp at this;omega
def p1(h:Sc rb t r i W)(l:i<t.n)(af:t.T i=91)(a5:Nz rb t r i W P):Cs 156 #[rp rb] W P:=by
 have hn:=t.le;have a4:=h.e.x.2.2;have H:=ua h;have NX:=ua a5;have HX:Hid (vF t i=(match jY t i with|none=>((⟨0,i,[],[]⟩:wH),i)|some (z,j)=>(⟨91,i,[],z⟩,j))):=(by
  unfold vF;rw[Zn (by rw[af];unfold M.bH;omega),Zn oM,Zp af];cases jY t i<;>rfl)
 have hz:=(zero_of_info (P:=prog) ufQ).1;obtain⟨z0,p0,l0⟩:=h.e.x;go_enter func156,ntmps156;go_wp2_with fail;have HK:=ua ((jU (rb:=rb) (wA.e _ W) 1 (Iv ((i:Int)+1))).c (wA.a (λb=>b=rb) _ (Oc Hc 177)));have HS:=ua ((H.set (j:=i+1) (x:=(i:Int)+1) sM l).kp (wA.a _ _ (Oc Hc 177)));have HZ:=ua (uV (W.setCell (Ad rb 1) (Iv ((i:Int)+1))) Hc 177 W.heap.size (by rw[uj]));generalize (W.setCell (Ad rb 1) (Iv ((i:Int)+1))).alloc (Oc Hc 177)=W0 at *;refine PZ HS λW1 d I R s1 k1=>?_
 have D:Kz t i=I/\Ra t i=d:=(by
  unfold Kz Ra;rcases R with⟨rfl,u,G,rfl⟩|⟨rfl,u,rfl⟩
  ·rw[Gi ⟨u,G⟩];exact⟨rfl,rfl⟩
  rw[Gv u];exact⟨rfl,rfl⟩)
 have ba:i+1<=I:=by rcases R with⟨_,_,_,rfl⟩|⟨_,_,rfl⟩<;>omega
 have ad:=ua (HZ.a (k1.d W.heap.size HZ.x.2.2 (by show ¬W.heap.size=rb;omega)));have C0:=ua (show CJ rb t r W W1.heap.size I (λ_=>false) (W1.alloc (Oc (madeCells #[Bf] 256) 207)) from ⟨s1.kp wU,Ja W1 _ 256 207,ad.al _,(HK.c k1).c wU,ad.x.2.2,a4⟩);obtain⟨A,ah⟩:=nm (xf t (t.n+2-i) I (λ_=>false));have HC:Hid (jY t i=ule d A):=(by show _=_;unfold jY;rw[D.1,D.2,ah]);have aw:=ua ah;go_wp2;generalize W1.alloc (Oc (madeCells #[Bf] 256) 207)=W2 at *;generalize W1.heap.size=w at *;have S:Hid (A=none->∀W',KB rb W W'->P (.panicked (Fq 5 (i:Nat))) W'):=λe W' k=>NX.bad _ (by rw[HX.o,HC.o,e];rfl) k
 go_loopw [25] (OV rb t r W w A) (λ_ wr=>t.n+1-Lw rb wr)
 ·exact⟨t.n+2-i,I,λ_=>false,oM,aw,C0⟩
 obtain⟨f,j,m,hf,hF,B⟩:=hrel;obtain⟨f,rfl⟩:∃q,f=q+1:=⟨f-1,oM⟩;have HF:=ua hF;have U:=ua B;have ak:=B.sc.le;have aq:=ua B.sc.f;go_wp2_with fail;refine CF U.sc (λW3 u G s3 k3=>?_) (λW3 u s3 k3=>?_)
 ·have s:=U.to s3 k3;have HE:Hid (vF t i=(⟨91,i,[],rg (λb=>m b != d) 256⟩,j+1)):=(by have:=HF;rw[xf,Zp ⟨u,G⟩]at this;show _=_;rw[HX.o,HC.o,<-this];rfl);obtain⟨ae,ay,am,az⟩:=s.y;have ap:=ua ay;have ax:=ua am;have ac:=ua (LV (!d) ae (λb=>m b != d) W3 am (λi l=>by rw[az i l];show some (Value.bool (m i))=_;cases d<;>cases m i<;>rfl));have s:=ua s;obtain⟨L,hL⟩:=nm (rg (λb=>m b != d) 256);rw[hL]at HE ac;go_wp2_with fail;refine wp_load_mid 207 (.tmp 5) rfl w 0 rfl ae.toList (.array 256 4) (λj v hv=>?_) underlying207 rfl (by rw[Ku,ax.o];exact AD) ?_
  ·rw[zL];exact uP ap (by simpa using hv)
  rw[Array.toArray_toList];go_wp2_with fail;refine ac.mono ?_;rintro e W4 ⟨sa,sc,rfl,⟨Q,a3,hP,ai⟩,a7⟩;have E:Kf W3 W4:=wA.i ai (λk hk _=>hk);obtain⟨z2,p2,l2⟩:=(s.e.on ai).x;have an:=ua (CH H (s.sc.kp E) (s.kb.c (xI E)));have HO:=ua (yE (HV L▸a3));have V:=ua hP;have h3:=s.e.x.2.2;obtain⟨Y,ag⟩:=nm L.length;have av:=ua ag;rw[ag];go_wp2;refine wL (v:=.agg #[Bv 91,Iv (i:Nat),.string ⟨#[]⟩,Sl sa Y sc]) (by simp[results,f156,go_sem, *]) rfl ?_;obtain⟨f1,f2⟩:=an (Bv 91) (Iv (i:Nat)) (.string ⟨#[]⟩) (Sl sa Y sc);have:=NX.ok _ ⟨91,i,[],L⟩ (j+1) sa sc HE (by show(91:Int)≠0;decide) f1 ?_ f2
  ·rw[Ic,show(⟨91,i,[],L⟩:wH).set.length=Y from av.o]at this;exact this
  have st:∀{X:Wl} {o:Nat} {v:Vl},wB Q .i64 X sa L.length (lf L)->wB Q .i64 (X.setCell (Ad W.heap.size o) v) sa L.length (lf L):=λh=>wB.on h (λb D=>zJ _ (λe=>by have e':b=W.heap.size:=e;have:=(V b D).1;omega))
  exact(st (st (st (st HO)))).g (λb D=>⟨by have:=(V b D).1;omega,by simp only[uj];exact(V b D).2⟩)
 have s:=ua (U.to s3 k3);have aa:Hid (xf t (f+1) j m=A/\¬(j<t.n/\t.T j=93)):=⟨HF,u⟩;go_wp2_with fail;refine BT true s.sc (λq=>by cases q) (λW4 lo n F s4 E=>?_) (λW4 F E=>?_)
 rotate_left
 ·go_wp2;exact⟨rfl,S (by have:=aa;rw[xf,Zn this.2,F,Zp rfl]at this;exact this.1.symm) _ (s.kb.c E)⟩
 have C4:=ua (s.to s4 E);obtain⟨l0,l1⟩:=OX ak F;obtain⟨lo,rfl⟩:∃q:Nat,lo=(q:Int):=⟨lo.toNat,oM⟩;have bb:=QG ak F;have ab:Hid ((if j+n+1<t.n/\t.T (j+n+1)=45 then (if (zH t (j+n+1+1) true).2=0\/(zH t (j+n+1+1) true).1<(lo:Int) then none else xf t f (j+n+1+1+(zH t (j+n+1+1) true).2) (kK m lo ((zH t (j+n+1+1) true).1.toNat+1))) else xf t f (j+n+1) (kK m lo (lo+1)))=A):=(by have:=aa;rw[xf,Zn this.2,F,Zn sM]at this;exact this.1);go_wp2_with fail;refine PZ C4.sc λW5 d2 j1 R s5 k5=>?_
 have C:=ua (C4.to s5 k5);have HD:=ua R;have a0:=s5.le;go_upto_if 31 with fail;go_cut [7] (λv wc=>∃(l j2:Nat),v=Bv l/\l<=255/\j+n+1<=j2/\CJ rb t r W w j2 m wc/\(if l<lo then none else xf t f j2 (kK m lo (l+1)))=A)
 ·rcases HD.o with⟨rfl,u,G,rfl⟩|⟨rfl,u,rfl⟩
  ·have J:=ua ((Zp ⟨u,G⟩).symm.trans ab);go_wp2_with fail;refine BT true C.sc (λq=>by cases q) (λW6 l n2 O s6 k6=>?_) (λW6 O k6=>?_)
   ·have p:=ua (C.to s6 k6);obtain⟨l2,l3⟩:=OX a0 O;obtain⟨l,rfl⟩:∃q:Nat,l=(q:Int):=⟨l.toNat,oM⟩;have N:Hid ((if l<lo then none else xf t f (j+n+1+1+n2+1) (kK m lo (l+1)))=A):=(by have:=J;rw[O]at this;show _=_;rw[<-this];by_cases q:l<lo<;>simp[q]<;>rfl);go_wp2;go_meet;exact⟨l,_,rfl,oM,oM,p,N⟩
   go_wp2;exact⟨rfl,S (by have:=J;rw[O,Zp (.inl rfl)]at this;exact this.symm) _ (C.kb.c k6)⟩
  have J:=ua ((Zn u).symm.trans ab);go_wp2;go_meet;exact⟨lo,_,rfl,oM,oM,C,(Zn (Jc _)).trans J⟩
 obtain⟨hi2,j2,rfl,a6,bc,B,hF⟩:=hcut;have C:=ua B;have bd:=B.sc.le;have N:=ua hF;by_cases aj:hi2<lo
 ·have hgt':(hi2:Int)<(lo:Int):=oM;go_wp2;exact⟨rfl,S (by have:=N;rw[Zp aj]at this;exact this.symm) _ C.kb⟩
 have au:=ua ((Zn aj).symm.trans N);have hgt':¬(hi2:Int)<(lo:Int):=oM;have a9:=λW=>BS (lo:Int) W oM oM
 have a8:=λW=>BS (hi2:Int) W oM oM
 go_wp2;go_loopw [8] (OW rb t r W w m j2 lo hi2) (λv _=>hi2+1-(intOf v).toNat)
 ·exact⟨lo,wF,oM,rfl,by rw[HU];exact C⟩
 obtain⟨k,a1,be,rfl,B⟩:=hrel;have p:=ua B;by_cases bg:k<=hi2
 ·have a2:(k:Int)<=(hi2:Int):=oM;have bf:(k:Int)<256:=oM;have mk:=p.y.cell (i:=k) oM;have mf:=p.y.frozen k;have Z:Hid (OW rb t r W w m j2 lo hi2 (Iv ((k:Int)+1)) (wr.setCell (Ad w k) Bt)):=(by
   have hm:=p.o.mb;have hr:=p.o.rb;have k7:KB rb W (wr.setCell (Ad w k) Bt):=xB p.o.kb oM;exact⟨k+1,oM,oM,sM,⟨H.o.to k7 (p.o.sc.e.h _ _ _ oM) p.o.sc.le,((p.o.y.set k Bt).congr (λb _=>by
    have h:(if b=k then true else kK m lo k b)=kK m lo (k+1) b:=congrFun (HW m (lo:=lo) (k:=k) a1) b;rw[<-h];by_cases e:b=k<;>simp[e])),p.o.e.h _ _ _ oM,k7,hm,hr⟩⟩)
  go_wp2;go_roundw;all_goals first
   |exact Z
   |(simp[intOf];omega)
 have a2:¬(k:Int)<=(hi2:Int):=oM;obtain rfl:k=hi2+1:=oM;have ao:=ua p.sc.f;have Z:Hid (∀v,OV rb t r W w A v wr):=λv=>⟨f,j2,kK m lo (hi2+1),oM,au,p⟩
 go_wp2;go_roundw
 ·exact Z _
 rw[ao.o,aq.o];omega
end
end
section
open M (OpD uh Gr)
def OL(r:Rv)(k:wH)(sa:Oa)(sc:Nat):Rv:={ r with v2:=Bv (kk k.e),v3:=Iv (k.f:Nat),v4:=.string (str k.nm.length (lf k.nm)),v5:=Sl sa k.set.length sc }
def xA(t:Tx)(i:Nat):wH×Nat:=if skip t i<t.n then vF t (skip t i) else (⟨0,t.n,[],[]⟩,t.n)
abbrev Nx(W:Wl)(b:Nat)(v0 v1 v2 v3:Vl):Wl:=(((W.setCell (Ad b 2) v0).setCell (Ad b 3) v1).setCell (Ad b 4) v2).setCell (Ad b 5) v3
section
variable {rb:Nat} {t:Tx} {r:Rv} {i j β:Nat} {fr:Int} {w W W0 W':Wl} {P:Ew} {k:wH} {sa:Oa} {sc:Nat}
structure zl(rb:Nat)(t:Tx)(r:Rv)(i:Nat)(W:Wl)(P:Ew):Prop where
 ok:∀W' k j sa sc v,xA t i=(k,j)->(skip t i<t.n->k.e≠0)->Sc rb t (OL r k sa sc) j W'->wB (wM W W') .i64 W' sa k.set.length (lf k.set)->KB rb W W'->P (Rt v) W'
 bad:∀W',skip t i<t.n->(xA t i).1.e=0->KB rb W W'->P (.panicked (Fq 5 (skip t i:Nat))) W'
def Sc.p{b off:Nat}(h:Sc rb t r i W)(e:r.ta=some (Ad b off))(c:j<t.n):W.cell? (Ad b (off+j))=some (Bv (t.T j)):=by
 obtain⟨f,g,a,_,_,d⟩:=h.at c;rw[e]at a;simp at a;rw[a.1,a.2];exact d j c
def BL(s:Sc rb t r j W)(l:wB (wM w W) .i64 W sa k.set.length (lf k.set))(i:KB rb w W)(n:rb<w.heap.size){v2 v3 v4 v5:Vl}(e : #[v2,v3,v4,v5]=#[Bv (kk k.e),Iv (k.f:Nat),.string (str k.nm.length (lf k.nm)),Sl sa k.set.length sc]) :
  Sc rb t (OL r k sa sc) j (Nx W rb v2 v3 v4 v5)/\wB (wM w (Nx W rb v2 v3 v4 v5)) .i64 (Nx W rb v2 v3 v4 v5) sa k.set.length (lf k.set)/\KB rb w (Nx W rb v2 v3 v4 v5):=by
 simp at e;obtain⟨rfl,rfl,rfl,rfl⟩:=e;have h:∀v0 v1 v2 v3,KB rb W (Nx W rb v0 v1 v2 v3):=λ_ _ _ _=>jU (jU (jU (jU (wA.e _ W) _ _) _ _) _ _) _ _
 exact⟨⟨(((s.e.set 2 _).set 3 _).set 4 _).set 5 _,s.q.m (h _ _ _ _),s.le⟩,(l.on (λb a=>(h _ _ _ _).d b a.2 (λe=>oH a.1))).g (λb a=>⟨a.1,by simp only[uj];exact a.2⟩),i.c (h _ _ _ _)⟩
def zm t{β}(h:t.T β∈Ba):vF t β=(⟨t.T β,β,[],[]⟩,β+1)/\t.T β≠0/\kk (t.T β)=t.T β:=by
 have a:=h;simp only[Ba,Bx,Jp,or_false]at h;refine⟨?_,oM,by unfold kk;rw[Zn oM]⟩;unfold vF;rw[Zn (λq=>by unfold M.bH at q;omega),Zn oM,Zn oM,Zp a]
def BN(rb:Nat)(t:Tx)(r:Rv)(i:Nat)(w:Wl)(v:Vl)(wr:Wl):Prop:=∃j:Nat,skip t j=skip t i/\Sc rb t r j wr/\KB rb w wr
def OM(rb:Nat)(t:Tx)(r:Rv)(j:Nat)(w:Wl)(v:Vl)(wr:Wl):Prop:=∃k:Nat,jj t k=jj t j/\Sc rb t r k wr/\KB rb w wr
def ON(h:Sc rb t r i W)(am:t.n<=r.tc)(an:zl rb t r i W P):Cs 124 #[rp rb] W P:=by
 have hn:=t.le;have aa:=h.e.x.2.2;have H:=ua h;have I:=ua an;go_enter func124,ntmps124;go_wp2;go_step3;go_wp2;go_step3;go_wp2;go_loopw [12] (BN rb t r i W) (λ_ wr=>t.n-Lw rb wr)
 ·exact⟨i,rfl,H,zM⟩
 obtain⟨j,al,o,hK⟩:=hrel;have ac:=ua ((IU t j).symm.trans al);have R:=ua o.f;have Y:=ua o;have KJ:=ua hK;have hj:=o.le;obtain⟨z,β,l⟩:=o.e.x;by_cases a:j<t.n
 ·have hlt':(j:Int)<t.n:=oM;obtain⟨b,off,e,hb,hl,ht⟩:=Y.at a;have B:=ua e;rw[e]at z;go_upto_region 0 with fail;go_quiet (fail);have S:=ua (Y.kp (ut wr nq));have K1:=ua (KJ.c (xI (ut wr nq)));generalize wr.drewN nq=Z at *;obtain⟨z,β,l⟩:=S.e.x;have cT:=S.p B a;rw[B.o]at z;go_upto_region 1 with fail;go_quiet (fail);have d:=ua (S.kp (ut Z nq));have u:=ua (K1.c (xI (ut Z nq)));generalize Z.drewN nq=V at *;obtain⟨z,β,l⟩:=d.e.x;have S0:=ua ((Zp a).symm.trans ac);obtain⟨c,L⟩:=nm (t.T j);have G:=ua L;rw[L]at S0 ⊢;by_cases O:Mm c
  ·have C:=ua (d.set (j:=j+1) (x:=(j:Int)+1) sM a);have m:Hid (∀v,BN rb t r i W v (V.setCell (Ad rb 1) (Iv ((j:Int)+1)))):=λv=>⟨j+1,(Zp O).symm.trans S0,C,jU u _ _⟩
   rcases O with rfl|rfl|rfl|rfl;all_goals (
    go_wp2;go_roundw
    ·exact m _
    rw[C.o.f,R.o];omega)
  replace S0:=ua ((Zn O).symm.trans S0);by_cases ae:c=35
  ·subst ae;have S2:=ua ((Zp rfl).symm.trans S0);have ai:=ua (Tz t a G);go_wp2;go_loopw [52] (OM rb t r j W) (λ_ wr=>t.n-Lw rb wr)
   ·exact⟨j,rfl,d,u⟩
   obtain⟨k,ak,o,hK⟩:=hrel;have ab:=ua ((Yw t k).symm.trans ak);have SK:=ua o;have KK:=ua hK;have ah:=ua o.f;have ao:=o.le;have ad:Hid (¬(k<t.n/\t.T k≠10)->∀v V,Kf wr V->BN rb t r i W v V/\t.n-Lw rb V<t.n-j):=λh v V kv=>(by
    have e:=(Zn h).symm.trans ab;have s:=SK.kp kv;exact⟨⟨k,e▸S2.o,s,KK.o.c (xI kv)⟩,by rw[s.f];have:=ai.o;omega⟩)
   obtain⟨z,β,l⟩:=o.e.x;rw[B.o]at z;by_cases N:k<t.n
   ·have hkl':(k:Int)<t.n:=oM;go_upto_region 10 with fail;go_quiet (fail);have kq:=ua (ut wr nq);have U:=ua (SK.kp (ut wr nq));generalize wr.drewN nq=V6 at *;obtain⟨z,β,l⟩:=U.e.x;have cT:=U.p B N;rw[B.o]at z;go_upto_region 11 with fail;go_quiet (fail);have af:=ua (kq.c (ut V6 nq));have S8:=ua (U.kp (ut V6 nq));generalize V6.drewN nq=V8 at *;obtain⟨z,β,l⟩:=S8.e.x;by_cases J:t.T k=10
    ·have m:=ua (λv=>ad (λq=>q.2 J) v _ af);rw[J];go_wp2;go_roundw
     ·exact(m _).1
     rw[R.o];exact(m Bt).2
    have h10':(t.T k==10)=false:=(by simpa using J);have C:=ua (S8.set (j:=k+1) (x:=(k:Int)+1) sM N);have m:Hid (∀v,OM rb t r j W v (V8.setCell (Ad rb 1) (Iv ((k:Int)+1)))):=λv=>⟨k+1,(Zp ⟨N,J⟩).symm.trans ab,C,jU (KK.c (xI af)) _ _⟩
    go_wp2;go_roundw
    ·exact m _
    rw[C.o.f,ah.o];omega
   have hkl':¬(k:Int)<t.n:=oM;have m:=ua (λn v=>ad (λq=>N q.1) v _ (ut wr n));go_upto_region 10 with fail;go_quiet (fail);go_wp2;go_roundw
   ·exact(m _ _).1
   rw[R.o];exact(m _ Bt).2
  have A:=ua (((Zn ae).symm.trans S0).symm);have aj:Hid (Nz rb t r j V λe W'=>(∃k j sa sc,e=Rt (Ic k sa sc)/\Sc rb t r j W'/\KB rb V W'/\(∀v2 v3 v4 v5 v,#[v2,v3,v4,v5]=#[Bv (kk k.e),Iv (k.f:Nat),.string (str k.nm.length (lf k.nm)),Sl sa k.set.length sc]->P (Rt v) (Nx W' rb v2 v3 v4 v5)))\/(e=.panicked (Fq 5 (j:Nat))/\P e W')):=(by
   have ha:xA t i=vF t j:=(by unfold xA;rw[A.o,Zp a]);refine⟨λW' k j' sa sc e h0 s hi Q=>.inl ⟨k,j',sa,sc,rfl,s,Q,λv2 v3 v4 v5 v he=>?_⟩,λW' h0 Q=>.inr ⟨rfl,?_⟩⟩
   ·obtain⟨D,a2,E⟩:=BL (sc:=sc) s (hi.g (λb hb=>⟨wN u.h hb.1,hb.2⟩)) (u.c Q) aa he;exact I.ok _ k j' sa sc v (ha.trans e) (λ_=>h0) D a2 E
   have:=I.bad W' (by rw[A.o];exact a) (by rw[ha];exact h0) (u.c Q);rwa [A.o]at this)
  by_cases F:c∈Ba
  ·have ag:Hid (∀v,P (Rt v) ((Nx V rb (Bv c) (Iv (j:Nat)) (.string ⟨#[]⟩) nS).setCell (Ad rb 1) (Iv ((j:Int)+1)))):=λv=>(by
    obtain⟨h1,h2,h3⟩:=zm t (β:=j) (by rw[G.o];exact F);rw[G.o]at h1 h2 h3;obtain⟨D,a2,E⟩:=BL (k:=⟨c,j,[],[]⟩) (sa:=none) (sc:=0) (w:=W) d (.inl rfl) u aa (v2:=Bv c) (v3:=Iv (j:Nat)) (v4:=.string ⟨#[]⟩) (v5:=nS) (by show _=#[Bv (kk c),_,_,_];rw[h3];rfl);exact I.ok _ ⟨c,j,[],[]⟩ (j+1) none 0 v (by unfold xA;rw[A.o,Zp a,h1]) (λ_=>h2) (D.set sM a) (.inl rfl) (jU E _ _))
   simp only[Ba,Bx,Jp,or_false]at F;rcases F with rfl|rfl|rfl|rfl|rfl|rfl|rfl|rfl|rfl|rfl|rfl;all_goals (
    go_wp2;rw[Exit.noGoto_ret];exact wL (results_none rfl _ _ _) rfl (ag _))
  have X:Hid (if c=34 then ∀P,Nz rb t r j V P->Cs 155 #[rp rb] V P else if c=91 then ∀P,Nz rb t r j V P->Cs 156 #[rp rb] V P else ∀P,Nz rb t r j V P->Cs 157 #[rp rb] V P):=(by
   have L:=G;show ite _ _ _;split
   ·exact λP q=>uf2 d a oM q
   split
   ·exact λP q=>p1 d a oM q
   exact λP q=>ujh d a oM oM (by rw[L];exact F) am q)
  simp only[Ba,Bx,Jp,or_false,Mm]at F O;obtain⟨x1,x2,x3,x4,x5,x6,x7,x8,x9,ap,aq,au,av,aw,ax,ay⟩:(c==32)=false/\(c==9)=false/\(c==13)=false/\(c==10)=false/\(c==35)=false/\(c==61)=false/\(c==59)=false/\(c==47)=false/\(c==33)=false/\(c==38)=false/\(c==42)=false/\(c==63)=false/\(c==40)=false/\(c==41)=false/\(c==46)=false/\(c==94)=false:=by simp only[Ht];omega
  rcases(show c=34\/c=91\/(c≠34/\c≠91) by omega) with rfl|rfl|⟨y1,y2⟩
  case' inr.inr =>
   have X:=ua ((Zn y2).symm▸(Zn y1).symm▸X.o);have az:(c==34)=false:=(by simpa using y1);have a0:(c==91)=false:=by simpa using y2
  all_goals (
   go_wp2_with fail;refine(X _ aj).mono ?_;rintro e W4 (⟨k,j4,sa,sc,rfl,s4,k4,y⟩|⟨rfl,y⟩)
   ·have y:=ua y;obtain⟨z,β,l⟩:=s4.e.x;unfold Ic;go_wp2;rw[Exit.noGoto_ret];exact wL (results_none rfl _ _ _) rfl (y _ _ _ _ _ rfl)
   have y:=ua y;go_wp2;exact⟨rfl,y⟩)
 obtain rfl:j=t.n:=oM;have A:=ua (((Zn a).symm.trans ac).symm);go_upto_region 0 with fail;go_quiet (fail);have d:=ua (Y.kp (ut wr nq));have u:=ua (KJ.c (xI (ut wr nq)));generalize wr.drewN nq=V at *;obtain⟨z,β,l⟩:=d.e.x;go_wp2;obtain⟨D,a2,E⟩:=BL (k:=⟨0,t.n,[],[]⟩) (sa:=none) (sc:=0) (w:=W) d (.inl rfl) u aa (v2:=Bv 0) (v3:=Iv (t.n:Nat)) (v4:=.string ⟨#[]⟩) (v5:=nS) rfl;exact wL (results_none rfl _ _ _) rfl <| I.ok _ ⟨0,t.n,[],[]⟩ t.n none 0 _ (by unfold xA;rw[A.o,Zn (Jc _)]) (λq=>aB q (by rw[A.o];exact Jc _)) D (.inl rfl) E
end
end
section
open M (OpD uh Gr)
abbrev Mu:Vl:=.iface 355 (.agg #[])
abbrev Out(X:Np)(w:Wl):Nat->Prop:=λb=>b<w.heap.size/\¬X b
def De(X:Np)(w:Wl)(z:LI)(v:Vl):Prop:=∃a c,v=.iface 278 (.agg #[Sl a z.length c])/\wB (Out X w) .i64 w a z.length (lf z)
def Br(X:Np)(w:Wl):List Int->Value->Prop
 |[],v=>v=Mu
 |[x],v=>De X w (yB x) v
 |y::x::r,v=>∃u a,v=.iface 284 (.agg #[u,a])/\Br X w (x::r) u/\De X w (yB y) a
def Ev(X:Np)(w:Wl):PE->Value->Prop
 |.ref t,v=>v=.iface 280 (.agg #[.string (str t.nm.length (lf t.nm))])
 |.thr _ t,v=>v=.iface 282 (.agg #[.string (str t.nm.length (lf t.nm))])
 |.str t,v=>Br X w t.nm.reverse v
 |.cls t,v=>De X w t.set v
 |.dot _,v=>De X w [0,255] v
 |.grp _ e _,v=>Ev X w e v
 |.star e _,v=>∃u,v=.iface 287 (.agg #[u])/\Ev X w e u
 |.opt e _,v=>∃u,v=.iface 285 (.agg #[u,Mu])/\Ev X w e u
 |.not _ e,v=>∃u,v=.iface 288 (.agg #[u])/\Ev X w e u
 |.amp _ e,v=>∃u,v=.iface 288 (.agg #[.iface 288 (.agg #[u])])/\Ev X w e u
 |.emp,v=>v=Mu
 |.seq a b,v=>∃u c,v=.iface 284 (.agg #[u,c])/\Ev X w a u/\Ev X w b c
 |.alt a _ b,v=>∃u c,v=.iface 285 (.agg #[u,c])/\Ev X w a u/\Ev X w b c
structure Ay(X:Np)(w:Wl)(X':Np)(w':Wl):Prop where
 kp:wA X w w'
 nw:∀b,X' b->X b\/w.heap.size<=b
section
variable {X X' X2:Np} {w w' w2:Wl} {z:LI} {v u:Vl}
def Ay.c(h:Ay X w X' w')(k:Ay X' w' X2 w2):Ay X w X2 w2 :=
 ⟨⟨k.kp.os.trans h.kp.os,k.kp.g.trans h.kp.g,k.kp.f.trans h.kp.f,wN h.kp.h k.kp.h,λb a e=>(k.kp.d b (wX a h.kp.h) (λq=>(h.nw b q).elim e (λq=>oM))).trans (h.kp.d b a e)⟩,
  λb q=>(k.nw b q).elim (h.nw b) (λq=>.inr (wN h.kp.h q))⟩
def Ay.d(k:wA X w w'):Ay X w X w':=⟨k,λ_ q=>.inl q⟩
def ym{e:IntKind}{a:Oa}{n:Nat}{T:Nat->Int}(h:wB (Out X w) e w a n T)(m:Ay X w X' w'):wB (Out X' w') e w' a n T :=
 (h.on (λb c=>m.kp.d b c.1 c.2)).g (λb c=>⟨wX c.1 m.kp.h,λq=>(m.nw b q).elim c.2 (λq=>oH c.1)⟩)
def De.mv(h:De X w z v)(m:Ay X w X' w'):De X' w' z v:=let ⟨a,c,e,h⟩:=h;⟨a,c,e,ym h m⟩
def Br.mv:∀(z:LI) {v:Vl},Br X w z v->Ay X w X' w'->Br X' w' z v
 |[],v,h,_=>h
 |[x],v,h,m=>De.mv h m
 |y::x::r,v,⟨u,u',e,h1,h2⟩,m=>⟨u,u',e,Br.mv (x::r) h1 m,h2.mv m⟩
def Ev.mv{e:PE}(h:Ev X w e v)(m:Ay X w X' w'):Ev X' w' e v:=by
 induction e generalizing v with
 |ref|thr|emp=>exact h
 |str=>exact Br.mv _ h m
 |cls|dot=>exact De.mv h m
 |grp _ _ _ a=>exact a h
 |star _ _ a|opt _ _ a|not _ _ a|amp _ _ a=>exact let ⟨u,e,h⟩:=h;⟨u,e,a h⟩
 |seq _ _ i1 i2|alt _ _ _ i1 i2=>exact let ⟨u,u',e,h1,h2⟩:=h;⟨u,u',e,i1 h1,i2 h2⟩
def Br.a:∀{z:LI} {v:Vl},Br X w z v->∃ty u,v=.iface ty u
 |[],v,h=>⟨_,_,h⟩
 |[x],v,⟨_,_,e,_⟩=>⟨_,_,e⟩
 |y::x::r,v,⟨_,_,e,_⟩=>⟨_,_,e⟩
def Ev.a{e:PE}(h:Ev X w e v):∃ty u,v=.iface ty u:=by
 induction e with
 |ref|thr|emp=>exact⟨_,_,h⟩
 |str=>exact Br.a h
 |cls|dot=>exact let ⟨_,_,e,_⟩:=h;⟨_,_,e⟩
 |grp _ _ _ b=>exact b h
 |star|opt|not|amp=>exact let ⟨_,e,_⟩:=h;⟨_,_,e⟩
 |seq|alt=>exact let ⟨_,_,e,_⟩:=h;⟨_,_,e⟩
end
section
variable {X:Np} {w:Wl} {P:Ew} {x y:Int} {z:LI}
def QK(a:∀b,X b->b<w.heap.size):wB (Out X (w.alloc (Oc #[Iv x,Iv y] 3))) .i64 (w.alloc (Oc #[Iv x,Iv y] 3)) (Sm w.heap.size 0) 2 (lf [x,y]) :=
 .inr ⟨w.heap.size,0,rfl,⟨sM,λq=>Jc _ (a _ q)⟩,λj c=>by
  rw[zL,(um w #[Iv x,Iv y] 3).x.1 j];match j,c with
  |0,_=>rfl
  |1,_=>rfl⟩
def QL(g:∀b,X b->b<w.heap.size)(e:0<=x)(f:x<=255)(h:∀ty u w',De X w' (yB x) (.iface ty u)->Kf w w'->P (Rt (.iface ty u)) w'):Cs 271 #[Bv x] w P:=by
 have i:=λW=>BS x W e f
 have d:=ua h;have c:=ua g;go_enter func271,ntmps271;go_wp2;exact d _ _ _ ⟨_,2,rfl,QK c⟩ wU
def Ob(c:Int):Bool:=decide (c=33\/c=38\/c=94\/c=46\/c=40\/c=97\/c=34\/c=91)
def QM c w:Cs 222 #[Bv c] w λe w'=>e=Rt (.bool (Ob c))/\w'=w:=by
 by_cases h:c=33\/c=38\/c=94\/c=46\/c=40\/c=97\/c=34\/c=91
 ·rw[show Ob c=true from Gi h];rcases h with rfl|rfl|rfl|rfl|rfl|rfl|rfl|rfl;all_goals (
   go_enter func222,ntmps222;go_wp2;go_ret;exact⟨rfl,rfl⟩)
 rw[show Ob c=false from Gv h];obtain⟨a,b,d,f,g,i,j,k⟩:(c==33)=false/\(c==38)=false/\(c==94)=false/\(c==46)=false/\(c==40)=false/\(c==97)=false/\(c==34)=false/\(c==91)=false:=by simp only[Ht];omega
 go_enter func222,ntmps222;go_wp2;go_ret;exact⟨rfl,rfl⟩
def Br.d{w':Wl}{l:LI}{v u:Vl}(a:l≠[])(h:Br X w' l v)(b:De X w' (yB y) u):Br X w' (y::l) (.iface 284 (.agg #[v,u])):=by
 cases l with
 |nil=>exact absurd rfl a
 |cons x r=>exact⟨v,u,rfl,h,b⟩
def utA z(d:wW z)i y(h:i<(str z.length (lf z)).size)(b:z[i]?=some y):(((str z.length (lf z))[i]'h).toNat:Int)=y:=by
 have e:=(zT.1 b).1;have f:=d y (Be b);have a:(str z.length (lf z)).data.toList[i]?=some ((str z.length (lf z))[i]'h):=by
  rw[Array.getElem?_toList];exact Array.getElem?_eq_getElem (by simpa using h)
 rw[xC]at a;unfold Cf at a;rw[Du,List.getElem?_range e]at a;injection a with a;rw[<-a];have c:lf z i=y:=by unfold lf;rw[Cx,b];rfl
 show(((UInt8.ofNat (lf z i).toNat).toNat:Nat):Int)=y;rw[c];simp;omega
def CI(X:Np)(z:LI)(w:Wl)(v u:Vl)(wr:Wl):Prop:=∃i:Nat,1<=i/\i<=z.length/\u=Iv (i:Nat)/\Br X wr (z.take i).reverse v/\Kf w wr
def uf4(O:∀b,X b->b<w.heap.size)(n:wW z)(Q:z.length<=1000000)(U:∀ty u w',Br X w' z.reverse (.iface ty u)->Kf w w'->P (Rt (.iface ty u)) w') :
  Cs 269 #[.string (str z.length (lf z))] w P:=by
 have m:=ua U;have v:=ua O;cases z with
 |nil =>
  show Cs 269 #[.string ⟨#[]⟩] w _;go_enter func269,ntmps269;go_wp2;exact m _ _ _ rfl zM
 |cons x r =>
  obtain⟨z,p⟩:=nm (x::r);have j:=ua p.symm;rw[p]at n Q m ⊢;have S:0<z.length:=by rw[<-p];simp
  have s:=ua n;have t:=ua (utA z n);have ac:=Wp z.length (lf z);have ab:((str z.length (lf z)).toList==([]:List UInt8))=false:=by
   rw[Ht];intro q;have:=zD List.length q;rw[qF,Cf,zN,List.length_range,Ef]at this;omega
  generalize str z.length (lf z)=g at *;go_enter func269,ntmps269;go_wp2_with fail;rw[show((g[0]' oM).toNat:Int)=x from t.o 0 x _ (by rw[j.o];rfl)];have C:=s x (by rw[j.o];simp);refine QL v C.1 C.2 λty u W1 V T=>?_
  have H:Hid (CI X z w (.iface ty u) (Iv 1) W1):=⟨1,wF,S,rfl,by rw[j.o];exact V,T⟩;go_wp2;go_loopw [3,4] (CI X z w) (λ_ u _=>z.length-(intOf u).toNat)
  ·exact H
  obtain⟨i,aa,hi2,rfl,B,N⟩:=hrel;obtain⟨Z,x3,rfl⟩:=B.a;have A:=ua B;have k:=ua N;by_cases E:i<z.length
  ·have hlt':(i:Int)<g.size:=oM;have R:i<g.size:=oM;obtain⟨y,o⟩:∃y,z[i]?=some y:=⟨_,zG E⟩;have J:=ua (t i y R o);have D:=s y (Be o);have I:Hid ((z.take (i+1)).reverse=y::(z.take i).reverse):=(by show _=_;rw[Hu,o];simp);have G:Hid ((z.take i).reverse≠[]):=λq=>(by have:=zD List.length q;rw[List.length_reverse,Fy,Ef]at this;omega)
   go_wp2_with fail;rw[J.o];refine QL (X:=X) (λb q=>wX (v b q) k.h) D.1 D.2 λY u2 W2 W F=>?_
   have L:Hid (CI X z w (.iface 284 (.agg #[.iface Z x3,.iface Y u2])) (Iv ((i:Int)+1)) W2):=⟨i+1,oM,E,sM,by rw[I.o];exact Br.d G (Br.mv _ A (Ay.d (F.l (λ_ q=>q.elim)))) W,k.c F⟩;go_wp2;go_roundw;all_goals first
    |exact L
    |(simp[intOf];omega)
  have hlt':¬(i:Int)<g.size:=oM;have f:=A;rw[Jo oM]at f;have f:=ua f;go_wp2;exact m _ _ _ f k
end
end
end Go.Proofs.YtoihadcablknpaaGreatDoor
