import Derived.Test.YtoihadcablknpaaGreatDoorT31
import Derived.Test.YtoihadcablknpaaGreatDoorT32
set_option linter.unusedVariables false
set_option linter.unusedSimpArgs false
set_option linter.defProp false
set_option maxHeartbeats 40000000
set_option maxRecDepth 100000
namespace Go.Proofs.YtoihadcablknpaaGreatDoor
open Go.RowKit
open Go.Proofs.Tryz
open M (OpD uh Gr uw EX ins uJ emit_len nodeC)
def HG(K:EC)(W:Wl)(v u r:Vl)(wc:Wl):Prop :=
 ∃(h z:Int) (a:Oa) (n c:Nat),v=Iv h/\u=Iv z/\r=Sl a n c/\K.Kp W wc /\
 ((h=2/\K.k wc)\/(h=1/\∃s',K.t=s'.t 1/\K.Wd (λ_=>False) s' wc)\/(h=0/\∃s' B,K.t=s'.t 0/\z=(s'.c:Int)/\K.Wd B s' wc/\Bp W wc B (Sl a n c) s'.a/\Nst K.g.nb 0 s'.c s'.a/\s'.a.length<=50000))
def ZO Q g ra la ia rc lc il ic I fU mO t w(hV:M.Sound g)(hG:zC Q w ra la g)(hI:wB Q .u8 w ia il I)(hB:Fe il I)(ah:il<=1048576)(f0:0<=fU)(f1:fU<=50000)(m0:0<=mO)(m1:mO<=1000)(hQ:∀x,Q x->x<w.heap.size)n R(hP:∀b,(EC.mk g ra rc la lc ia il ic I fU mO n R t b w Q).Pg)(hE:Ends n R il I fU mO s0 t) :
  Cs 14 #[.agg #[Sl ra g.nr rc,Sl la g.nb lc],Sl ia il ic,Iv fU,Iv mO] w (λe w'=>NT t w e w'/\Mj g.nb t):=by
 generalize hX:((w.alloc (Oc #[Sl ra g.nr rc,Sl la g.nb lc] 37)).alloc (Oc #[Iv 0,Iv 0,Iv 0,Iv 0,nS,Iv 0,Iv 0,nS] 44))=X;have KX:Hid (Kf w X):=hX▸wU.c wU;have BG:=ua (hX▸(um w #[Sl ra g.nr rc,Sl la g.nb lc] 37).al _);have BR:=ua (hX▸uV _ #[Iv 0,Iv 0,Iv 0,Iv 0,nS,Iv 0,Iv 0,nS] 44 (w.heap.size+1) sM);have ac:X.heap.size=w.heap.size+1+1:=by rw[<-hX];simp
 have ae:=ua ac;obtain⟨K,F⟩:=nm (EC.mk g ra rc la lc ia il ic I fU mO n R t X.heap.size w Q);have hK:K.Ok:=F▸⟨hV,hG,hI,hB,ah,f0,f1,m0,m1,KX.o.h,hQ⟩;have af:K.Pg:=F▸hP _;have HE:Hid (K.E s0):=F▸hE;have HS:Hid (K.Sg s0):=F▸⟨rfl,wF,wF,f0,m0⟩;generalize hY:X.alloc (Oc #[Sl ra g.nr rc,Sl la g.nb lc,Sl ia il ic,Iv fU,Iv mO,Iv 0,Iv 0,nS,Iv 0,Iv 0,Iv 0,Iv 0] 89)=Y;have KY:Hid (Kf X Y):=hY▸wU;have HW:Hid (K.Wd (λ_=>False) s0 Y):=⟨none,0,0,0,0,0,by rw[<-F];exact hY▸um X _ _,⟨Ix.symm,.inl rfl,λ_ _ _ e=>by cases e⟩,by rw[<-F];exact uf KX.o.u KY.o.u⟩;have hb:X.heap.size=K.b:=F▸rfl;have aa:Hid (K.b=w.heap.size+1+1):=by show _=_;rw[<-hb];exact ac
 have ht:Hid (K.t=t):=F▸rfl;have ap:Hid (K.w0=w):=F▸rfl;have ag:Hid (K.g=g):=F▸rfl;have G:=ua hK;have HP:=ua af;obtain⟨z,pz,lz⟩:=BG.o.x;clear F hK af hP hE hV hG hI hB ah hQ ac;go_enter func14,ntmps14;go_upto_region 5 with fail;clear hb hX hY z pz lz;have ai:=ua (BR.o.on KY.o.u);obtain⟨h0,H⟩:=Ax.h HP.o.d;have O:=ua (λP'=>yJ (P:=P') G.o HW.o HE.o HS.o (q:=0) rfl h0);rw[H]at O;go_cut [25] (λv wc=>(v=Bf/\K.k wc/\K.Kp Y wc)\/(v=Bt/\K.Kp Y wc/\∃C,C.f=Cw K.g 0/\C.st = [⟨2,1,0,0⟩]/\C.a = []/\C.c=0/\K.E C/\K.Sg C/\K.Wd (λ_=>False) C wc))
 ·go_wp2_with fail;refine O.o _ (λW1 w1 k1 e1 Z l1=>?_) (λW1 w1 k1=>?_)
  rotate_left
  ·go_wp2;go_meet;exact .inl ⟨rfl,w1,k1⟩
  have ad:Hid (K.E (({ s0.g with f:=Cw K.g 0 }:wD).n ⟨2,1,0,0⟩ K.a)):=e1;have G1:Hid (K.Sg { s0.g with f:=Cw K.g 0 }):=⟨Z.e,Z.thr,Z.a,Z.st,Z.c⟩;have W1':Hid (K.Wd (λ_=>False) { s0.g with f:=Cw K.g 0 } W1):=w1.d rfl rfl rfl rfl;clear e1 Z w1 O;go_wp2_with fail;refine Pa (s:={ s0.g with f:=Cw K.g 0 }) G.o rfl W1'.o G1.o (λW2 w2 k2 l2=>?_) (λW2 H h2 k2=>?_)
  ·have ak:=ua (jC ⟨2,1,0,0⟩ l2▸ad.o);go_wp2;go_meet;exact .inr ⟨rfl,k1.c k2,_,rfl,rfl,rfl,rfl,ak.o,⟨G1.o.e,G1.o.thr,G1.o.a,G1.o.st,by have h:((0:Nat):Int)<K.a:=l2;show((1:Nat):Int)<=_;omega⟩,w2.d rfl rfl rfl rfl⟩
  have i:=h2 (Ends.d (by have:=ad.o;rw[H]at this;exact this) rfl);go_wp2;go_meet;exact .inl ⟨rfl,i,k1.c k2⟩
 clear O;have HC:=ua hcut;go_upto_if 25 with fail;go_cut [10,11,12] (λv u r an=>HG K Y v u r an)
 ·rcases HC.o with⟨rfl,H,h2⟩|⟨rfl,k1,C,i1,i2,i3,i4,hE,hG,V⟩
  ·go_wp2;go_meet;exact⟨2,0,none,0,0,rfl,rfl,rfl,h2,.inl ⟨rfl,H⟩⟩
  have ND:=ua (ZS G.o HP.o (K.c-C.b).toNat 0 1 0 0 1 false (λ_=>False) { C with st:=[] } C wc · (oH G.o.a.r1) (by have:=G.o.a.r1;rw[vJ K.g oM];exact Yi (G.o.a.rb 0 oM)) rfl i1 (by rw[i2];rfl) ⟨rfl,rfl⟩ wF (by rw[i4];rfl) (by rw[i2];rfl) (by unfold wD.l;rw[i2];rfl) hE hG V (λ_ q=>q.elim) wF);have K1:=ua k1;have am:=ua V;clear hcut hE hG V;go_wp2_with fail;refine ND.o _ ⟨λs' L B a n c W3 f N r J=>?_,λs' z3 W3 f N J=>?_,λz3 W3 N J=>?_⟩
  ·obtain⟨h2,i⟩:=Ax.h (Ax.a HP.o.d);have O:=ua (λP'=>yJ (P:=P') G.o N f.e f.sg f.f h2);have e3:s'.g.q (K.R (0+1)) K.il K.I K.a=s'.g.t 0:=by
    have hl:s'.st = []:=f.st;rw[i];unfold wD.q;simp[ins,wD.g,hl]
   rw[zL]at e3;rw[e3]at O;have hl:s'.a=L:=(by rw[f.a];show C.a++L=L;rw[i3];rfl);have W:=ua (K1.o.c J);have R1:=ua (hl▸r);have ao:=am.o.lt;have NS:=ua (show Nst K.g.nb 0 s'.c s'.a/\s'.a.length<=50000 from ⟨hl▸i4▸f.b,by have H:=f.sg.a;have h2:=f.sg.st;have i:=G.o.f1;omega⟩);unfold yI;clear f N r J hl;go_wp2_with fail;refine O.o _ (λW4 w4 k4 e4 g4 l4=>?_) (λW4 w4 k4=>?_)
   ·have ab:Hid (HG K Y (Iv 0) (Iv s'.c) (Sl a n c) W4):=⟨0,s'.c,a,n,c,rfl,rfl,rfl,W.o.c k4,.inr (.inr ⟨rfl,s'.g,_,Ends.d e4 rfl,rfl,w4.g (λx q=>.inr q),(R1.o.b K1.o.h).m k4 (λx o hb=>by have:=(R1.o.e x hb).1;have o:x=K.b:=o;omega),NS.o⟩)⟩;clear w4 e4 g4;go_wp2;go_meet;exact ab.o
   have ab:=ua (show K.Kp Y W4/\K.k W4 from ⟨W.o.c k4,w4⟩);clear w4;go_wp2;go_meet;exact⟨2,s'.c,a,n,c,rfl,rfl,rfl,ab.o.1,.inl ⟨rfl,ab.o.2⟩⟩
  ·have H:=f.over rfl;have W:=ua (K1.o.c J);have W3':=ua N;unfold yI;clear f N J;go_wp2;go_meet;exact⟨1,z3,none,0,0,rfl,rfl,rfl,W.o,.inr (.inl ⟨rfl,s',H,W3'.o⟩)⟩
  have W:=ua (K1.o.c J);have W3':=ua N;unfold yI;clear N J;go_wp2;go_meet;exact⟨2,z3,none,0,0,rfl,rfl,rfl,W.o,.inl ⟨rfl,W3'.o⟩⟩
 obtain⟨h,z,a,n,c,rfl,rfl,rfl,kY,hh⟩:=hcut;have KK:=ua ((KX.o.c KY.o).u);have aj:=ua (jX kY ai.o (oH aa.o));obtain⟨zr,pr,lr⟩:=aj.o.x;have BL:Hid (Bw w wc):=KK.o.trans (kY.below KK.o.size (λx o e=>oH aa.o));have SX:Hid (∀(W':Wl) (A:Np),wA (λx=>x=w.heap.size+1) wc W'->∀{xa:Oa} {xn:Nat} {E:Nat->Bool},Dw (λx=>K.b<x/\x<wc.heap.size/\¬A x) wc xa xn E->Dw (wM w W') W' xa xn E):=λW' A k xa xn E h=>(h.on (λx o=>k.d x o.2.1 (λe=>oG aa.o o.1))).g (λx o=>⟨by have:=aa.o;have:=o.1;omega,wX o.2.1 k.h⟩)
 rcases hh with⟨rfl,s,xa,xn,xc,lb,ps,D,i⟩|⟨rfl,s',U,V⟩|⟨rfl,s',B,U,rfl,V,T,hn⟩
 ·have WX:=ua D;obtain⟨y,py,ly⟩:=D.e.x;unfold EC.wd at y;rw[ht.o]at i y;rcases i with i|⟨i,h4,h5,h6,h7,h8,h9⟩
  ·have HC:=ua i;rw[i]at y;have S:Hid (Mj g.nb t):=⟨λq=>aB (i.symm.trans q) dC,λq=>aB (i.symm.trans q) dC⟩;clear D i;go_wp2;refine wL (by simp[results,f14,go_sem, *];rfl) rfl ?_;refine⟨⟨_,_,_,_,_,_,_,_,_,_,_,_,rfl,HC.o.symm,.inr (.inr (.inr rfl)),λq=>aB rfl q,λq=>aB q dC,λq=>aB q dC,?_,λ_=>rfl⟩,S.o⟩;refine uf ?_ (wG _);repeat with_reducible first|exact BL.o|refine uy ?_ oM
  have HC:=ua i;have H8:=ua (show s.h=t.h/\s.d=t.d/\s.j=t.j/\lb=t.label/\ps=(t.c:Int) from ⟨h6,h8,h7,h4,h5⟩);rw[i]at y;have S:Hid (Mj g.nb t):=⟨λq=>aB (i.symm.trans q) dC,λ_=>by rw[<-h4,<-ag.o];exact h9⟩;clear D i h4 h5 h6 h7 h8 h9;go_wp2;refine wL (by simp[results,f14,go_sem, *];rfl) rfl ?_;refine⟨⟨_,_,_,_,_,_,_,_,_,_,_,_,rfl,HC.o.symm,.inr (.inr (.inl rfl)),λq=>⟨by rw[H8.o.1],by rw[H8.o.2.1],?_⟩,λq=>aB q dC,λq=>⟨H8.o.2.2.2.2,H8.o.2.2.2.1⟩,?_,λq=>aB rfl q⟩,S.o⟩
  ·rw[<-H8.o.2.2.1];refine SX.o _ _ ?_ WX.o.ex;refine wA.c ?_ wU;repeat with_reducible first|exact zM|refine wA.c ?_ (zP rfl)
  refine uf ?_ (wG _);repeat with_reducible first|exact BL.o|refine uy ?_ oM
 ·obtain⟨xa,xn,xc,cd,lb,ps,D⟩:=V;have WX:=ua D;have p:=ua (ht.o.symm.trans U);obtain⟨y,py,ly⟩:=D.e.x;unfold EC.wd at y;have S:Hid (Mj g.nb t):=ht.o.symm.trans U▸⟨λq=>aB (show(1:Int)=0 from q) dC,λq=>aB (show(1:Int)=2 from q) dC⟩;clear D U;go_wp2;refine wL (by simp[results,f14,go_sem, *];rfl) rfl ?_;refine⟨⟨_,_,_,_,_,_,_,_,_,_,_,_,rfl,by rw[p.o];rfl,.inr (.inl rfl),λq=>⟨by rw[p.o];rfl,by rw[p.o];rfl,?_⟩,λq=>aB q dC,λq=>aB q dC,?_,λ_=>rfl⟩,S.o⟩
  ·rw[p.o];refine SX.o _ _ ?_ WX.o.ex;refine wA.c ?_ wU;repeat with_reducible first|exact zM|refine wA.c ?_ (zP rfl)
  refine uf ?_ (wG _);repeat with_reducible first|exact BL.o|refine uy ?_ oM
 obtain⟨xa,xn,xc,cd,lb,ps,D⟩:=V;have WX:=ua D;have aq:=KY.o.h;have RX:Hid (∀W':Wl,wA (λx=>x=w.heap.size+1) wc W'->wC (wM w W') W' (Sl a n c) 3 s'.a.length (uS s'.a)):=λW' k=>uA (T.r.on (λx o=>k.d x (T.e x o).2 (λe=>oG ((T.e x o).1) ae.o))) (λx o=>⟨by have:=(T.e x o).1;have:=ae.o;omega,wX (T.e x o).2 k.h⟩)
 have p:=ua (ht.o.symm.trans U);obtain rfl:=T.c;obtain⟨y,py,ly⟩:=D.e.x;unfold EC.wd at y;have S:Hid (Mj g.nb t):=ht.o.symm.trans U▸⟨λ_=>ag.o▸hn,λq=>aB (show(0:Int)=2 from q) dC⟩;clear D U T hn;go_wp2;refine wL (by simp[results,f14,go_sem, *];rfl) rfl ?_;refine⟨⟨_,_,_,_,_,_,_,_,_,_,_,_,rfl,by rw[p.o];rfl,.inl rfl,λq=>⟨by rw[p.o];rfl,by rw[p.o];rfl,?_⟩,λq=>⟨by rw[p.o];rfl,by rw[p.o];rfl,c,?_⟩,λq=>aB q dC,?_,λ_=>rfl⟩,S.o⟩
 ·rw[p.o];refine SX.o _ _ ?_ WX.o.ex;refine wA.c ?_ wU;repeat with_reducible first|exact zM|refine wA.c ?_ (zP rfl)
 ·rw[p.o];refine RX.o _ ?_;refine wA.c ?_ wU;repeat with_reducible first|exact zM|refine wA.c ?_ (zP rfl)
 refine uf ?_ (wG _);repeat with_reducible first|exact BL.o|refine uy ?_ oM
def Jy(f:FuncId):Vl:=.func (.func f) #[] #[]
def Rm(k:Nat):Vl:=.func (.func 211) #[] #[.pointer (Sm k 0)]
def Nu(a b c:Nat):Array Value:=#[Jy 175,Jy 176,Jy 177,Jy 178,Jy 179,Jy 180,Jy 181,Jy 182,Jy 183,Rm a,Rm b,Rm c,Jy 185]
def Zo{k}{w}:Cs 184 #[Iv k] w (λe w'=>e=Rt (.func (.func 211) #[] #[.pointer (Sm w.heap.size 0)])/\w'=w.alloc (Oc #[Iv k] 3)):=by
 go_enter func184,ntmps184;go_wp2;go_ret;exact⟨rfl,rfl⟩
def udz a b f c w(d:(w.cell? a).isSome=true)(e:w.frozen? a=false):(store a (.func b f c)).run prog w=.ok () (w.setCell a (.func b f c)):=by
 obtain⟨u,g⟩:=Dt.1 d;rw[run_store _ _ _ _ _ rfl,g];simp[e]
attribute [local go_sem] udz
def KX(w:Wl)(b:Nat)(v0 v1 v2 v3 v4 v5 v6 v7 v8 e a c d:Vl):Wl:=(((((((((((((w.setCell (Ad b 0) v0).setCell (Ad b 1) v1).setCell (Ad b 2) v2).setCell (Ad b 3) v3).setCell (Ad b 4) v4).setCell (Ad b 5) v5).setCell (Ad b 6) v6).setCell (Ad b 7) v7).setCell (Ad b 8) v8).setCell (Ad b 9) e).setCell (Ad b 10) a).setCell (Ad b 11) c).setCell (Ad b 12) d)
def N5 w b v0 v1 v2 v3 v4 v5 v6 v7 v8 f a c d:Bk (λx=>x=b) w (KX w b v0 v1 v2 v3 v4 v5 v6 v7 v8 f a c d):=by
 unfold KX;have h:=λ(o:Nat) (v:Vl) {W:Wl} (k:Bk (λx=>x=b) w W)=>Bk.set (P:=λx=>x=b) k b o v rfl
 exact(h 12 d (h 11 c (h 10 a (h 9 f (h 8 v8 (h 7 v7 (h 6 v6 (h 5 v5 (h 4 v4 (h 3 v3 (h 2 v2 (h 1 v1 (h 0 v0 (Bk.e _ _))))))))))))))
structure KY(w:Wl)(e:Ending)(w':Wl):Prop where
 ex:∃k0 k1 k2,e=Rt (.agg (Nu k0 k1 k2))/\w'.cell? (Ad k0 0)=some (Iv 0)/\w'.cell? (Ad k1 0)=some (Iv 1)/\w'.cell? (Ad k2 0)=some (Iv 2)
 u:Bw w w'
def N6 w:Cs 147 #[] w (KY w):=by
 go_enter func147,ntmps147;go_wp2_with fail;refine(Zo).mono ?_;rintro e w' ⟨rfl,rfl⟩;go_wp2_with fail;refine(Zo).mono ?_;rintro e w' ⟨rfl,rfl⟩;go_wp2_with fail;refine(Zo).mono ?_;rintro e w' ⟨rfl,rfl⟩;have l:=Qs (Qs (Qs (xq w (Oc #[.nilFunc,.nilFunc,.nilFunc,.nilFunc,.nilFunc,.nilFunc,.nilFunc,.nilFunc,.nilFunc,.nilFunc,.nilFunc,.nilFunc,.nilFunc] 264) _ rfl) (Oc #[Iv 0] 3)) (Oc #[Iv 1] 3)) (Oc #[Iv 2] 3);have i:=ua (uf (Mp w (Oc #[.nilFunc,.nilFunc,.nilFunc,.nilFunc,.nilFunc,.nilFunc,.nilFunc,.nilFunc,.nilFunc,.nilFunc,.nilFunc,.nilFunc,.nilFunc] 264) (Oc #[Iv 0] 3) (Oc #[Iv 1] 3)) (uk _ (Oc #[Iv 2] 3)));simp only[zV];generalize k:(((w.alloc _).alloc _).alloc _).alloc _=Y at *;have o:Y.cell? (Ad (w.heap.size+1) 0)=some (Iv 0):=k▸uv _ (uv _ (cN (w.heap.size+1) sM rfl));have p:Y.cell? (Ad (w.heap.size+1+1) 0)=some (Iv 1):=k▸uv _ (cN (w.heap.size+1+1) sM rfl);have q:Y.cell? (Ad (w.heap.size+1+1+1) 0)=some (Iv 2):=k▸cN (w.heap.size+1+1+1) sM rfl;clear k;have s:=λj=>Qr (j:=j) l
 have b:=λj v h=>uP (j:=j) (v:=v) l h
 have t:=ud (b 0 _ rfl);have u:=b 0 _ rfl;have y:=b 1 _ rfl;have C:=b 2 _ rfl;have D:=b 3 _ rfl;have E:=b 4 _ rfl;have F:=b 5 _ rfl;have G:=b 6 _ rfl;have H:=b 7 _ rfl;have I:=b 8 _ rfl;have J:=b 9 _ rfl;have z:=b 10 _ rfl;have A:=b 11 _ rfl;have B:=b 12 _ rfl;clear b;have r:=trivial;have m:Hid (∀W',Bk (λx=>x=w.heap.size) Y W'->KY w (Rt (.agg (Nu (w.heap.size+1) (w.heap.size+1+1) (w.heap.size+1+1+1)))) W'):=λW' c =>
  ⟨⟨_,_,_,rfl,(zI (a:=⟨w.heap.size+1,0,none⟩) (c.d (w.heap.size+1) oM)).trans o,(zI (a:=⟨w.heap.size+1+1,0,none⟩) (c.d (w.heap.size+1+1) oM)).trans p,(zI (a:=⟨w.heap.size+1+1+1,0,none⟩) (c.d (w.heap.size+1+1+1) oM)).trans q⟩,
   ⟨c.os.trans i.os,c.g.trans i.tape,c.f.trans i.output,by rw[c.h];exact i.size,λx n=>(c.d x oM).trans (i.block x n)⟩⟩
 go_wp2;refine wL (v:=.agg (Nu (w.heap.size+1) (w.heap.size+1+1) (w.heap.size+1+1+1))) ?_ rfl ?_
 ·unfold Nu Jy Rm;simp[results,f147,go_sem, *]
 exact m _ (N5 _ _ _ _ _ _ _ _ _ _ _ _ _ _ _)
def LA fU mO w:Cs 48 #[Iv fU,Iv mO] w (CU (decide (0<=fU/\fU<=50000/\0<=mO/\mO<=1000)) w):=by
 by_cases a:0<=fU<;>by_cases b:fU<=50000<;>by_cases c:0<=mO<;>by_cases d:mO<=1000
 all_goals
  go_enter func48,ntmps48;go_wp2;go_ret;exact⟨sO,rfl⟩
def KZ{kd}{b}{c} sa a sc{w}(d:a<=1048576):Cs 111 #[.agg #[Iv kd,Iv b,Iv c,Sl sa a sc]] w (Od (decide (512<a)) w):=by
 by_cases h:512<a
 ·have h':(512:Int)<(a:Int):=oM;go_enter func111,ntmps111;go_wp2;go_ret;exact⟨by simp[h],wG w⟩
 have h':¬(512:Int)<(a:Int):=oM;go_enter func111,ntmps111;go_wp2;go_ret;exact⟨by simp[h],wG w⟩
def N7(n:Nat)(R:Nat->uw)(w:Wl)(e:Ending)(w':Wl):Prop:=(∃r:Int,e=Rt (Iv r)/\(0<=r↔∃i,i<n/\512<(R i).sl)/\-1<=r/\r<=1048576)/\Bw w w'
def N8(w:Wl)(n:Nat)(R:Nat->uw)(a:Vl)(wr:Wl):Prop:=∃k:Nat,k<=n/\a=Iv (k:Int)/\(∀i,i<k->¬512<(R i).sl)/\Bw w wr
def N9 Q a n c R w(d:En Q w a n R)(J:n<=1048576)(E:∀i,i<n->(R i).sl<=1048576) :
  Cs 146 #[Sl a n c,.func (.func 111) #[] #[]] w (N7 n R w):=by
 have z:=ua d;have A:=ua E;go_enter func146,ntmps146;go_wp2;go_loopw [8] (λt wr=>N8 w n R t wr) (λt _=>n-(intOf t).toNat)
 ·exact⟨0,wP,rfl,λi p=>aB p Ct,wI _⟩
 obtain⟨k,I,rfl,C,x⟩:=hrel;have u:=ua C;have l:=ua x;by_cases r:k<n
 ·have d:=z.q x;rcases d with H|⟨b,off,rfl,L,d⟩
  ·omega
  obtain⟨B,F,G,sa,sc,c3,N⟩:=d k r;have lb:=ud B;have hlt':(k:Int)<(n:Int):=oM;have s:=A k r;obtain⟨g,y⟩:=nm ((R k).sl);have v:=ua y;rw[y]at c3 s;by_cases j:512<g
  ·have D:decide (512<g)=true:=(by simp[j]);have o:=ua j;go_wp2_with (go_at_call 111;refine(KZ sa g sc s).mono ?_;rintro e W ⟨rfl,f⟩;have m:Hid _:=f;clear f);go_ret;exact⟨⟨(k:Int),rfl,⟨λ_=>⟨k,r,by rw[v.o];exact o⟩,λ_=>oM⟩,oM,oM⟩,uf l m⟩
  have D:decide (512<g)=false:=by simp[j]
  have o:=ua j;go_wp2_with (go_at_call 111;refine(KZ sa g sc s).mono ?_;rintro e W ⟨rfl,f⟩;have m:Hid _:=f;clear f);go_roundw
  ·exact⟨k+1,oM,by go_num,vE u (by rw[v.o];exact o),uf l m⟩
  simp[intOf];omega
 obtain rfl:k=n:=oM;go_wp2;go_ret;exact⟨⟨-1,rfl,⟨λh=>oM,λ⟨i,p,h⟩=>aB h (u i p)⟩,oM,oM⟩,l⟩
def O0 Q a n c R w(l:En Q w a n R)(o:n<=1048576)(p:∀i,i<n->(R i).sl<=1048576) :
  Cs 110 #[Sl a n c,.func (.func 111) #[] #[]] w (yz (∃i,i<n/\512<(R i).sl) w):=by
 have h:=ua l;have j:=ua p;go_enter func110,ntmps110;go_wp2_with fail;refine(N9 Q a n c R _ h o j).mono ?_;rintro e W ⟨⟨r,rfl,g,s,t⟩,f⟩;have d:=ua g;have b:=ua f;clear g f;by_cases k:0<=r
 ·go_wp2;go_ret;exact⟨⟨true,rfl,jS (d.1 k)⟩,b⟩
 have m:decide (0<=r)=false:=sO;go_wp2;go_ret;exact⟨⟨false,by rw[<-m];rfl,vh (λq=>oH (d.2 q))⟩,b⟩
section
section
variable {Q:Np} {a:Oa} {n c:Nat} {E:Nat->Au} {w:Wl}
def DY E k:zE E (k+1)=if (E k).e==2 then zE E k-1 else zE E k+1:=by
 cases h:(E k).e==2
 ·rw[jx h];rfl
 rw[xY h];rfl
def ugo(d:Mv Q w a n E)(U:n<=1048576)(t:Whole E n) :
  Cs 46 #[Sl a n c] w (λe w'=>e=Rt Bt/\Bw w w'):=by
 have A:=ua d;have p:=ua t;clear d t;go_enter func46,ntmps46;go_wp2;go_loopw [3,4] (λy r wr=>∃k:Nat,k<=n/\r=Iv k/\y=Iv (zE E k)/\Bw w wr) (λy r _=>n-(intOf r).toNat)
 ·exact⟨0,wP,rfl,rfl,wI _⟩
 obtain⟨k,G,rfl,rfl,i⟩:=hrel;have m:=ua i;have H:=Wv E k;have I:=xE (p.o.1.g G);by_cases v:k<n
 ·rcases A.o.q i with F|⟨b,off,rfl,V,d⟩
  ·omega
  obtain⟨s,C,D⟩:=d k v;have ok:=p.o.1 k v;have l:=ok.a;have f:=ua (DY E k);rw[DY]at l;have J:decide ((E k).e<0)=false:=Gv (oH ok.lo);have L:decide (2<(E k).e)=false:=Gv (oH ok.hi);have N:decide ((E k).c<0)=false:=Gv (oH ok.c);have hlt':(k:Int)<(n:Int):=oM;have lb:=ud s;have z:=ua ok.k;have B:=ua d;obtain⟨o,x⟩:=nm (zE E k);rw[x]at f l H I ⊢;clear d C i ok x;generalize (E k).e=kd at *;generalize (E k).c=ps at *;cases u:kd==2;all_goals
   rw[u]at f l;have P:decide (o+1<0)=false:=sO;have R:kd==2->decide (o-1<0)=false:=λh=>by rw[u]at h;simp at l h ⊢<;>omega
   rcases k with _|j
   ·simp only[Ge,Cc]at s D;go_wp2;go_quiet (fail);go_wp2;go_roundw
    ·exact⟨0+1,oM,by go_num,by rw[f.o];rfl,zB m.o _⟩
    first|(simp[intOf];done)|(simp[intOf];omega)
   obtain⟨_,_,p2⟩:=B.o j oM;have O:decide ((0:Int)<(j:Int)+1)=true:=Gi oM;have T:(j:Int)<(n:Int):=oM;have S:decide (ps<(E j).c)=false:=Gv (by have:=z.o oM;simp at this;omega);go_wp2;go_quiet (fail);go_wp2;go_roundw
   ·exact⟨j+1+1,oM,by go_num,by rw[f.o];rfl,zB m.o _⟩
   first|(simp[intOf];done)|(simp[intOf];omega)
 obtain rfl:k=n:=oM;have F:(zE E k==0)=true:=by rw[p.o.2];rfl
 clear i;go_wp2;go_ret;exact⟨rfl,m.o⟩
def dl(E:Nat->Au):Nat->List Int
 |0=>[]
 |k+1=>dl E k++[Kc E k]
def kH E k:(dl E k).length=k:=by
 induction k with
 |zero=>rfl
 |succ k a=>rw[dl,wK,a];rfl
def uvn E{k n}(h:k<n):lf (dl E n) k=Kc E k:=by
 induction n with
 |zero=>omega
 |succ n a =>
  unfold lf at a ⊢;rw[dl,Cx];by_cases e:k=n
  ·subst e;rw[Di (by rw[kH];exact wF),kH];simp
  rw[Cr (by rw[kH];omega),<-Cx];exact a oM
def zO.app{w W v l z}(h:zO w W v l)(p:l.length<=1000000) :
  ∃a c W',(Builtin.append_ #[23,23] 23 #[v,Sl (Sm W.heap.size 0) 1 1]).run prog (W.alloc (Oc #[Iv z] 3))=.ok (Sl a (l.length+1) c) W'/\zO w W' (Sl a (l.length+1) c) (l++[z]):=by
 obtain⟨P,r,i,e⟩:=h;obtain⟨a,c,W',s,n,k⟩:=qW (A:=P) (o:=.cells #[Iv z] 3) (news:=[Iv z]) jz r (λb q=>(i b q).2) (vC underlying23 rfl (λj u m=>by rw[(um W _ 3).x.1 j,<-m];simp) (λu m=>by obtain rfl:=Aw.1 m;rfl)) p oM;have t:=e.size;refine⟨a,c,W',s,λb=>(P b\/W.heap.size<=b)/\b<W'.heap.size,by simpa[vB] using n,λb q=>⟨q.1.elim (λq=>(i b q).1) (λq=>oM),q.2⟩,⟨k.os.trans e.os,k.g.trans e.tape,k.f.trans e.output,wN t k.h,λx y=>(k.d x oM (λq=>oH ((i x q).1))).trans (e.block x y)⟩⟩
def ugp(i:Mv Q w a n E)(R:n<=1000000)(G:Lj E n):Cs 47 #[Sl a n c] w (Ps (dl E n) w):=by
 have t:=ua i;have x:=ua G;go_enter func47,ntmps47;go_wp2;go_loopw [3,4,5] (λs r m wr=>∃k:Nat,k<=n/\m=Iv k/\r=Iv (zE E k)/\zO w wr s (dl E k)) (λs r m _=>n-(intOf m).toNat)
 ·exact⟨0,wP,rfl,rfl,zO.nil (wI _)⟩
 obtain⟨k,C,rfl,rfl,l⟩:=hrel;obtain⟨J,L,rfl⟩:=l.a;rw[kH]at l ⊢;have H:=Wv E k;have I:=xE (x.g C);have f:=ua (DY E k);have d:Hid (dl E (k+1)=dl E k++[if (E k).e==2 then zE E k else zE E k+1]):=rfl;obtain⟨o,F⟩:=nm (zE E k);rw[F]at H I f d ⊢;have h:=ua l;by_cases D:k<n
 ·rcases t.q h.u with P|⟨b,off,rfl,S,i⟩
  ·omega
  obtain⟨A,_,_⟩:=i k D;have lb:=ud A;have hlt':(k:Int)<(n:Int):=oM;cases B:(E k).e==2;all_goals
   rw[B]at f d;obtain⟨N,O,W1,p,j⟩:=h.app (z:=_) (by rw[kH];omega);rw[<-d.o]at j;rw[kH]at p j;have y:=ua p;have v:=ua j;go_wp2_with (at_builtin;refine Mt rfl _ _ rfl rfl rfl y ?_);go_roundw
   ·exact⟨k+1,oM,by go_num,by rw[f.o];rfl,v⟩
   first|(simp[intOf];done)|(simp[intOf];omega)
 obtain rfl:k=n:=oM;go_wp2;go_ret;exact⟨J,L,by rw[kH];rfl,by rw[kH];exact h⟩
def TJ:(prog.info? 3).map (λi=>(i.zero,i.size,i.bytes))=some (some (Iv 0),1,8):=rR
def Lh(E:Nat->Au)(n k j:Nat):Int:=if k<=j/\cls E j=false then Jm E n (n-j) (zE E j+1) else 0
def DZ(W:Wl)(n:Nat)(E:Nat->Au)(a:Vl)(wr:Wl):Prop :=
 ∃k:Nat,k<=n/\a=Iv ((k:Int)-1)/\wr.rowIs W.heap.size 3 (n+2) (λd=>Iv (Jm E n (n-k) (d:Int)))/\wr.rowIs (W.heap.size+1) 3 n (λj=>Iv (Lh E n k j))/\Bw W wr/\wr.heap.size=W.heap.size+2
def EA(W:Wl)(n:Nat)(E:Nat->Au)(c a:Vl)(wr:Wl):Prop :=
 ∃k:Nat,k<=n/\a=Iv (k:Int)/\wr.rowIs W.heap.size 3 (n+2) (λd=>Iv (Bi E k (d:Int)))/\wC (λb=>W.heap.size+1<=b/\b<wr.heap.size) wr c 5 (num E k) (Ij E n k)/\Bw W wr/\W.heap.size<wr.heap.size
def TK{W wr:Wl}{j d:Nat}(p:j+1<=n)(m:Kc E j=(d:Int))(h:wr.rowIs W.heap.size 3 (n+2) (λd=>Iv (Jm E n (n-(j+1)) (d:Int))))(k:wr.rowIs (W.heap.size+1) 3 n (λi=>Iv (Lh E n (j+1) i)))(l:Bw W wr)(o:wr.heap.size=W.heap.size+2) :
  (cls E j=true->DZ W n E (Iv ((j:Int)-1)) (wr.setCell (Ad W.heap.size d) (Iv (E j).c)))/\(cls E j=false->DZ W n E (Iv ((j:Int)-1)) (wr.setCell (Ad (W.heap.size+1) j) (Iv (Jm E n (n-(j+1)) (d:Int))))):=by
 refine⟨λb=>⟨j,oM,rfl,(h.set d _).congr λi f=>?_,(k.setOther (a:=(Ad W.heap.size d)) sM _).congr λi f=>?_,uy l wF,by rw[uj];exact o⟩,
  λb=>⟨j,oM,rfl,(h.setOther (a:=(Ad (W.heap.size+1) j)) sM _).congr λi f=>?_,(k.set j _).congr λi f=>?_,uy l oM,by rw[uj];exact o⟩⟩
 ·have g:zE E j=(d:Int):=by rw[<-m,Kc,b];rfl
  rw[Oh E (show j<n by omega)];by_cases e:i=d
  ·subst e;rw[Zp rfl,Zp ⟨b,g⟩]
  rw[Zn e,Zn (λq=>e (oH q.2))]
 ·unfold Lh;by_cases e:i=j
  ·subst e;simp[b]
  simp only[show j+1<=i↔j<=i by omega]
 ·rw[Oh E (show j<n by omega),Zn (by simp[b])]
 have g:zE E j+1=(d:Int):=by rw[<-m,Kc,b];rfl
 unfold Lh;by_cases e:i=j
 ·subst e;rw[Zp rfl,Zp ⟨wF,b⟩,Oh E (show i<n by omega),Zn (by simp[b]),g]
 rw[Zn e];simp only[show j+1<=i↔j<=i by omega]
def urm{W:Wl}:(W.alloc (Oc ((madeCells #[Iv 0] (n+2)).setIfInBounds 0 (Iv (-1))) 3)).rowIs W.heap.size 3 (n+2) (λd=>Iv (Bi E 0 (d:Int))):=by
 have h:=World.rowIs_alloc W ((madeCells #[Iv 0] (n+2)).setIfInBounds 0 (Iv (-1))) 3 (λd=>Iv (Bi E 0 (d:Int))) (λd a=>by
  have hd':d<n+2:=by simpa[madeCells] using a
  by_cases e:d=0
  ·subst e;simp[Bi,madeCells]
  have:¬(d:Int)=0:=oM;have e':¬0=d:=oM;simp[Bi,madeCells,Array.getElem?_setIfInBounds,e',e,hd',Nat.mod_one])
 rw[show((madeCells #[Iv 0] (n+2)).setIfInBounds 0 (Iv (-1))).size=n+2 by simp[madeCells]]at h;exact h
def ujD(C:Mv Q w a n E)(hn:n<=1000000)(L:Whole E n) :
  Cs 17 #[Sl a n c] w (λe w'=>∃ta tc,e=Rt (.tuple #[Sl ta (num E n) tc,Iv 0])/\wC (wM w w') w' (Sl ta (num E n) tc) 5 (num E n) (Ij E n n)/\Bw w w'):=by
 have T:=ua C;have U:=ua L;have a5:=run_make_row' (P:=prog) 23 3 (Iv 0) 8 underlying23 TJ rfl .i64 .i64 n oM oM;have aq:∀w,(Instr.makeSlice 23 (Iv ((n:Int)+2)) (Iv ((n:Int)+2))).run prog w=.ok (Sl (Sm w.heap.size 0) (n+2) (n+2)) (w.alloc (Oc (madeCells #[Iv 0] (n+2)) 3)) :=
  run_make_row' (P:=prog) 23 3 (Iv 0) 8 underlying23 TJ rfl .i64 .i64 (n+2) oM oM
 go_enter func17,ntmps17;go_wp2_with fail;refine(ugo T oM U).mono ?_;rintro e W0 ⟨rfl,hb⟩;have B0:=ua hb;go_wp2_with fail;refine(ugp (T.q B0) oM U.1).mono ?_;rintro e W1 ⟨da,dc,rfl,hO⟩;rw[kH]at hO ⊢;have HD:Hid (wB (wM W0 W1) .i64 W1 da n (Kc E)):=by
  have:=CY (l:=dl E n) (by rw[kH];exact hO);rw[kH]at this;rcases this with h|⟨b,off,e,q,v⟩
  ·exact .inl h
  exact .inr ⟨b,off,e,q,λi hi=>by rw[v i hi,uvn E hi]⟩
 have B1:=ua (uf B0 hO.u);go_wp2;go_loopw [7] (λy wr=>DZ W1 n E y wr) (λy _=>(intOf y+1).toNat)
 ·refine⟨n,wF,rfl,((Ja W1 (Iv 0) (n+2) 3).alloc _).congr λd _=>?_,?_,Bn W1,sM⟩
  ·rw[Nat.sub_self];rfl
  have h:=Ja (W1.alloc (Oc (madeCells #[Iv 0] (n+2)) 3)) (Iv 0) n 3;rw[show(W1.alloc (Oc (madeCells #[Iv 0] (n+2)) 3)).heap.size=W1.heap.size+1 by simp]at h;exact h.congr λj hj=>by unfold Lh;rw[Zn oM]
 obtain⟨k,hk,rfl,O,G,p,S⟩:=hrel;rcases k with _|j
 ·have HT:Hid (∀W,Bw wr W->W.rowIs (W1.heap.size+1) 3 n (λj=>Iv (Lh E n 0 j))):=λW L=>G.of_block (L.block _ oM)
  have aa:=ua (uf B1 p);have aj:=ua (HD.q p);have ak:=ua (T.q aa);have l1:W1.heap.size+1<wr.heap.size:=oM;have au:(madeCells #[Iv 0] (n+2))[0]?=some (Iv 0):=by simp[madeCells]
  have HX:=ua (urm (W:=wr) (n:=n) (E:=E));clear O G p S;generalize wr=W2 at *;go_wp2;go_loopw [9,10] (λov y wr=>EA W2 n E ov y wr) (λov y _=>n-(intOf y).toNat)
  ·exact⟨0,wP,rfl,HX.o,.inl ⟨rfl,rfl,rfl⟩,wG W2,sM⟩
  obtain⟨k,hk,rfl,R,D,p,S⟩:=hrel;obtain⟨oa,oc,rfl⟩:=uq D;obtain⟨m,hm⟩:=nm (num E k);have av:=Ss E k;rw[hm]at D av ⊢;have H:=ua hm;clear hm aq au;by_cases ae:k<n
  ·rcases ak.o with h0|⟨b,off,rfl,hq,C⟩
   ·omega
   rcases aj.o with h0|⟨J,ad,rfl,ap,Z⟩
   ·omega
   obtain⟨B,V,X⟩:=C k ae;have I:=Z k ae;have lb:b<W2.heap.size:=ud B;have aw:J<W2.heap.size:=ud I;have ag:=(HT.o wr p).cell ae;have hlt':(k:Int)<(n:Int):=oM;have a8:b<wr.heap.size:=oM;have a9:J<wr.heap.size:=oM;have o2:=xE (U.o.1.g (show k<=n by omega));have o1:=Wv E k;replace B:=ue B p;replace V:=ue V p;replace X:=ue X p;replace I:=ue I p;clear C Z;cases v:(E k).e==2
   ·have r:cls E k=false:=v;obtain⟨e,he⟩:∃e:Nat,zE E k=(e:Int):=⟨(zE E k).toNat,oM⟩;have F:Kc E k=(e:Int)+1:=(by rw[Kc,r,he];rfl);rw[F]at I;have r1:=R.cell (i:=e+1) oM;have f1:=R.frozen (e+1);have az:(e:Int)+1<(n:Int)+2:=oM;have a0:(e:Int)<(n:Int)+2:=oM;have a1:(0:Int)<=(e:Int):=oM;have a6:IntKind.i64.wrap ((e:Int)+1-1)=(e:Int):=(by rw[show(e:Int)+1-1=(e:Int) by omega,IntKind.wrap_i64];omega);have a7:IntKind.i64.wrap (e:Int)=(e:Int):=(by rw[IntKind.wrap_i64];omega);generalize N:wr.setCell (Ad W2.heap.size (e+1)) (Iv m)=Y;have yb:∀x,x≠W2.heap.size->Y.heap[x]?=wr.heap[x]?:=λx s=>N▸zJ _ s
    have rY:Y.rowIs W2.heap.size 3 (n+2) (λd=>Iv (Bi E (k+1) (d:Int))):=N▸(R.set (e+1) _).congr (λd _=>by
     rw[kJ r,he,H.o];by_cases q:d=e+1
     ·subst q;rw[Zp rfl,Zp oM]
     rw[Zn q,Zn oM])
    have sY:Y.heap.size=wr.heap.size:=(by rw[<-N,uj]);have yc:∀{x o:Nat} {u:Vl},x≠W2.heap.size->wr.cell? (Ad x o)=some u->Y.cell? (Ad x o)=some u:=λ{x o u} s h=>(zI (a:=(Ad x o)) (yb x s)).trans h
    have am:Hid ((⟨(E k).e,(E k).f,(E k).c,Lh E n 0 k,Bi E (k+1) (e:Int)⟩:Bo)=Lx E n k):=by
     show _=_;unfold Lx Lh;rw[Zp ⟨wP,r⟩,kJ r,he,Zn oM]
    have af:Hid (num E (k+1)=m+1/\Ij E n (k+1)=Ij E n k++Ck (Lx E n k)):=⟨by rw[Ww E r,H.o],umc r⟩;have z:Bw W2 Y:=N▸uy p wF;obtain⟨a4,c4,W4,ai,ah,t⟩:=qW (A:=λb=>W2.heap.size+1<=b/\b<wr.heap.size) (W:=Y.drew) (o:=Wq ⟨(E k).e,(E k).f,(E k).c,Lh E n 0 k,Bi E (k+1) (e:Int)⟩) TG (D.on (λx q=>yb x (oH q.1))) (λx q=>by rw[World.size_drew,sY];exact q.2) (TH _ _) oM oM;have w4:Hid (EA W2 n E (Sl a4 (m+1) c4) (Iv ((k:Int)+1)) W4):=by
     have hz:Y.heap.size<=W4.heap.size:=t.h;refine⟨k+1,oM,by go_num,rY.of_block (t.d _ (by show _<Y.heap.size;omega) (λq=>oH q.1)),?_,⟨t.os.trans z.os,t.g.trans z.tape,t.f.trans z.output,wN z.size hz,λx s=>(t.d x (by show _<Y.heap.size;omega) (λq=>oH q.1)).trans (z.block x s)⟩,oM⟩;rw[af.o.1,af.o.2,<-am.o];exact uA ah (λx q=>⟨q.1.elim (·.1) (λh=>by have h:Y.heap.size<=x:=h;omega),q.2⟩)
    have an:=ua ai;have y5:=rY.cell (i:=e) oM;generalize Lh E n 0 k=tv at *;generalize Bi E (k+1) (e:Int)=pv at *;have y0:=yc oM B;have y1:=yc oM V;have y2:=yc oM X;have y4:=yc oM I;have y3:=yc oM ag;have HZ:Hid (∀W:Wl,(∀x,x<W2.heap.size+1->W.heap[x]?=Y.heap[x]?)->W.cell? (Ad b (off+k*3))=some (Iv (E k).e)/\W.cell? (Ad b (off+k*3+1))=some (Iv (E k).f)/\W.cell? (Ad b (off+k*3+2))=some (Iv (E k).c)/\W.cell? (Ad (W1.heap.size+1) k)=some (Iv tv)/\W.cell? (Ad J (ad+k))=some (Iv ((e:Int)+1))/\W.cell? (Ad W2.heap.size e)=some (Iv pv)):=λW L =>
     have q:=λ{x o:Nat} {u:Vl} (s:x<W2.heap.size+1) (h:Y.cell? (Ad x o)=some u)=>(zI (a:=(Ad x o)) (L x s)).trans h
     ⟨q oM y0,q oM y1,q oM y2,q oM y3,q oM y4,q oM y5⟩
    have al:Hid (∀x,x<W2.heap.size+1->W4.heap[x]?=Y.heap[x]?):=λx s=>t.d x (by show _<Y.heap.size;omega) (λq=>oH q.1)
    clear R D p r he F ag yb rY yc z ai ah t;go_wp2;clear N;go_region_held3 (λW'=>W'.cell? (Ad b (off+k*3))=some (Iv (E k).e)/\W'.cell? (Ad b (off+k*3+1))=some (Iv (E k).f)/\W'.cell? (Ad b (off+k*3+2))=some (Iv (E k).c)/\W'.cell? (Ad (W1.heap.size+1) k)=some (Iv tv)/\W'.cell? (Ad J (ad+k))=some (Iv ((e:Int)+1))/\W'.cell? (Ad W2.heap.size e)=some (Iv pv))
     (first|exact HZ.o _ al.o|exact⟨y0,y1,y2,y3,y4,y5⟩|go_keep)
     (refine Pn rfl (.tmp 83) (.tmp 112) rfl (by simp[Act.eval,Act.put]) (by simp[Act.eval,Act.put]) an.o ?_)
    all_goals go_goals
    all_goals go_wp2
    all_goals go_roundw
    ·first|exact w4|((repeat apply Exists.intro);exact⟨w4,rfl⟩)
    first|(simp[intOf];done)|(simp[intOf];omega)
   have r:cls E k=true:=v;have ao:Hid (EA W2 n E (Sl oa m oc) (Iv ((k+1:Nat):Int)) wr):=⟨k+1,oM,rfl,R.congr (λd _=>by rw[xX r]),by rw[EE r,H.o,ujF r];exact D,p,S⟩;go_wp2;go_roundw
   ·exact ao
   first|(simp[intOf];done)|(simp[intOf];omega)
  obtain rfl:k=n:=oM;have HN:Hid (wC (wM w wr) wr (Sl oa m oc) 5 m (Ij E k k)/\Bw w wr):=⟨uA D λx q=>⟨by have:=aa.size;omega,q.2⟩,uf aa p⟩;go_wp2;refine wL (by simp[results,f17,go_sem];rfl) rfl ⟨oa,oc,by rw[H.o],by rw[H.o];exact HN⟩
 rw[show((j+1:Nat):Int)-1=(j:Int) by omega];rcases(T.q B1).q p with h0|⟨b,off,rfl,hq,C⟩
 ·omega
 rcases HD.q p with h0|⟨J,ad,rfl,ap,Z⟩
 ·omega
 obtain⟨B,V,X⟩:=C j oM;have e0:=Z j oM;have o1:=Wv E j;have o2:=xE (U.1.g (show j<=n by omega));have lb:=ud B;have aw:=ud e0;have a2:(0:Int)<=(j:Int):=oM;have a3:(j:Int)<(n:Int):=oM;have l1:W1.heap.size<wr.heap.size:=oM;have l2:W1.heap.size+1<wr.heap.size:=oM;obtain⟨d,F,ax⟩:∃d:Nat,Kc E j=(d:Int)/\d<=n:=⟨(Kc E j).toNat,by unfold Kc;split<;>omega,by unfold Kc;split<;>omega⟩;have ab:=ua (TK hk F O.drew G.drew p.drew S).1;have ac:=ua (TK hk F O G p S).2;rw[F]at e0;have r1:=O.cell (i:=d) oM;have f1:=O.frozen d;have r2:=G.cell (i:=j) oM;have f2:=G.frozen j;have ay:(d:Int)<(n:Int)+2:=oM;cases v:(E j).e==2
 ·replace ac:=ua (ac v);go_wp2;go_roundw
  ·exact ac
  first|(simp[intOf];done)|(simp[intOf];omega)
 replace ab:=ua (ab v);go_wp2;go_region;all_goals go_wp2
 all_goals go_roundw
 ·exact ab
 first|(simp[intOf];done)|(simp[intOf];omega)
end
end
end Go.Proofs.YtoihadcablknpaaGreatDoor
