import Derived.Test.YtimfigongapdnaaGreatT22
set_option linter.unusedVariables false
set_option linter.unusedSimpArgs false
set_option maxHeartbeats 40000000
set_option maxRecDepth 100000
namespace Go.Proofs.YtimfigongapdnaaGreat
open Go.RowKit
open M (OpD ug Gr ur EX ins uH yu wt)
theorem ucD Q i la a(z lc n c:Nat)g(s:M.Sound g)B(p:Nat)(f:Int)w(x:f=(p:Int))(v:n<=2000)(t:n<=c)(d:OpsA Q w a n B)(e:M.BodyOK g.nr g.nb n B)(r:GramX Q w i la g)(C:p<=50000) :
  Calls Tryz.prog 56 #[.agg #[.slice i g.nr z,.slice la g.nb lc],.slice a n c,.int .i64 f] w (ugl (uH (plc g) (M.treeE g.nr n B) p) w):=by
 have k:¬n=0:=λq=>by
  have:=e.2.2;rw[q,M.dep]at this;omega
 rcases d with q|⟨b,off,rfl,y,d⟩
 ·exact absurd q k
 have A:=jz e;have D:=M.wsum_bd B n;obtain⟨T,rfl,l,m,o⟩:=ubW e;have h:=ueh (Q:=Q) (w:=w) (b:=b) (off:=off) m (λj u=>by rw[Nat.zero_add];exact d j u);rw[Nat.zero_mul,Nat.add_zero]at h;rw[M.treeE,o]at *;exact uot s y T off c p _ f w x rfl l t v h r (by omega)
theorem uqs{w0 w}k a t e d f(g:Below w0.heap.size w0 w) :
  IRow w0 (w.alloc (.cells #[.int .i64 k,.int .i64 a,.int .i64 t,.slice none 0 0,.int .i64 e,.int .i64 d,.int .i64 f,.slice none 0 0] 86)) (.slice (some ⟨w.heap.size,0,none⟩) 2 2) [ic k a t,ic e d f]:=by
 have l:(w.alloc (.cells #[.int .i64 k,.int .i64 a,.int .i64 t,.slice none 0 0,.int .i64 e,.int .i64 d,.int .i64 f,.slice none 0 0] 86)).heap.size=w.heap.size+1:=by simp
 have hb':=g.size;have h:∀j,j<8->(w.alloc (.cells #[.int .i64 k,.int .i64 a,.int .i64 t,.slice none 0 0,.int .i64 e,.int .i64 d,.int .i64 f,.slice none 0 0] 86)).cell? ⟨w.heap.size,j,none⟩=(uG [ic k a t,ic e d f])[j]?:=λj c=>by
  match j,c with
  |0,_=>exact cN w.heap.size rfl rfl
  |1,_=>exact cN w.heap.size rfl rfl
  |2,_=>exact cN w.heap.size rfl rfl
  |3,_=>exact cN w.heap.size rfl rfl
  |4,_=>exact cN w.heap.size rfl rfl
  |5,_=>exact cN w.heap.size rfl rfl
  |6,_=>exact cN w.heap.size rfl rfl
  |7,_=>exact cN w.heap.size rfl rfl
  |j+8,c=>omega
 refine⟨λb=>b=w.heap.size,λ_=>False,?_,?_,?_,λb q=>q.elim,uf g (ui w _),.inr (by simp)⟩
 ·refine .inr ⟨w.heap.size,2,rfl,rfl,rfl,Nat.le_refl _,λj c=>?_,λj c=>⟨?_,?_⟩⟩
  ·have hj':j<8:=(by simpa[uG,icv] using c);exact h j hj'
  ·rw[h j (by omega)];match j,c with
   |0,_=>rfl
   |1,_=>rfl
   |2,_=>rfl
   |3,_=>rfl
   |4,_=>rfl
   |5,_=>rfl
   |6,_=>rfl
   |7,_=>rfl
   |j+8,c=>omega
  exact qf w _ 86 w.heap.size j (Nat.le_refl _) (by rw[l];omega)
 ·intro y i;simp at i;rcases i with rfl|rfl<;>exact .inl rfl
 rintro b rfl;exact⟨hb',by rw[l];omega,λq=>q⟩
theorem Ints.inw{Q k w a n S}(h:Ints Q k w a n S):Ints (Of w) k w a n S:=by
 by_cases e:n=0
 ·exact .inl e
 rcases h with h|⟨b,off,d,f,c⟩
 ·exact .inl h
 exact .inr ⟨b,off,d,ud (c 0 (by omega)),c⟩
theorem OpC.inw{Q w b o d}(h:OpC Q w b o d):OpC (Of w) w b o d:=by
 obtain⟨e,⟨a,c,f,g⟩,i⟩:=h;exact⟨e,⟨a,c,f,g.inw⟩,i⟩
theorem OpsA.inw{Q w a n B}(h:OpsA Q w a n B):OpsA (Of w) w a n B:=by
 by_cases e:n=0
 ·exact .inl e
 rcases h with h|⟨b,off,d,g,c⟩
 ·exact .inl h
 exact .inr ⟨b,off,d,ud (c 0 (by omega)).kind,λi f=>(c i f).inw⟩
theorem GramX.inw{Q w m la g}(h:GramX Q w m la g):GramX (Of w) w m la g:=by
 refine⟨?_,?_⟩
 ·by_cases e:g.nr=0
  ·exact .inl e
  rcases h.rules with q|⟨b,off,j,n,f⟩
  ·exact .inl q
  have k:b<w.heap.size:=by obtain⟨⟨⟨a,c,d,_⟩,_⟩,_⟩:=f 0 (by omega);exact ud d
  exact .inr ⟨b,off,j,k,λi l=>let ⟨⟨⟨a,c,d,hn⟩,⟨a',c',c1,hb⟩⟩,hc⟩:=f i l;⟨⟨⟨a,c,d,hn.inw⟩,⟨a',c',c1,hb.inw⟩⟩,hc⟩⟩
 by_cases e:g.nb=0
 ·exact .inl e
 rcases h.labs with q|⟨b,off,j,n,f⟩
 ·exact .inl q
 have k:b<w.heap.size:=by obtain⟨⟨⟨a,c,d,_⟩,_⟩,_⟩:=f 0 (by omega);exact ud d
 exact .inr ⟨b,off,j,k,λi l=>let ⟨⟨⟨a,c,d,hn⟩,hh,⟨a',c',c1,hb⟩⟩,hc⟩:=f i l;⟨⟨⟨a,c,d,hn.inw⟩,hh,⟨a',c',c1,hb.inw⟩⟩,hc⟩⟩
def vO(g:Gr)(k:Nat):List ur:=M.progC (plc g) (opG g) (trG g) (xQ g) k
theorem xW g k:(vO g k).length=PL g k:=M.progC_len _ _ _ _ _ _
theorem ud7 g k(h:0<(nd g k).bl):vO g (k+1)=vO g k++[opG g k]++uH (plc g) (trG g k) (PL g k+1)++[ins 11 0 0]++[ins 7 0 0]:=by
 have e:xQ g k=true:=by simp[xQ,h]
 unfold vO;rw[M.progC,if_pos e,show(M.progC (plc g) (opG g) (trG g) (xQ g) k).length=PL g k from xW g k];unfold M.nodeC;simp
theorem ud8 g k(h:¬0<(nd g k).bl):vO g (k+1)=vO g k:=by
 have e:¬xQ g k=true:=by simp[xQ,h]
 unfold vO;rw[M.progC,if_neg e]
def utB(W1:World)(g:Gr)(b a:Value)(wr:World):Prop:=∃(k:Nat) (L:List IC),k<=g.nr+g.nb/\a=.int .i64 (k:Int)/\L.map IC.d=vO g k/\IRow W1 wr b L
theorem uex Q a la b lc g(s:M.Sound g)w(hG:GramX Q w a la g) :
  Calls Tryz.prog 20 #[.agg #[.slice a g.nr b,.slice la g.nb lc]] w (ugl (vO g (g.nr+g.nb)) w):=by
 have HG:Hid (GramX (Of w) w a la g):=hG.inw;have y:Hid (M.Sound g):=s;have i:=s.r2;have j:=s.l2;have av:=s.r1;have aw:Hid (vO g 0 = [ins 6 0 2,ins 12 0 0]):=by
  show _=_;have hb:0<(nd g 0).bl:=by
   rw[vT g av];by_cases q:(g.rule 0).bl=0
   ·have:=(s.rb 0 av).2.2;rw[q,M.dep]at this;omega
   omega
  have:plc g 0=2:=by rw[ud5,if_pos hb];rfl
  unfold vO;rw[M.progC,this]
 have R:Hid (Below w.heap.size w (w.alloc (.cells #[.slice a g.nr b,.slice la g.nb lc] 28))):=ui w _;have g0:Hid ((w.alloc (.cells #[.slice a g.nr b,.slice la g.nb lc] 28)).cell? ⟨w.heap.size,0,none⟩=some (.slice a g.nr b)):=cN w.heap.size rfl rfl;have g1:Hid ((w.alloc (.cells #[.slice a g.nr b,.slice la g.nb lc] 28)).cell? ⟨w.heap.size,1,none⟩=some (.slice la g.nb lc)):=cN w.heap.size rfl rfl;have R0:=uqs (w:=w.alloc (.cells #[.slice a g.nr b,.slice la g.nb lc] 28)) 6 0 2 12 0 0 (Below.refl _ _);rw[World.size_alloc]at R0;have ax:Hid _:=R0;clear R0 hG s;go_enter Tryz.func20,Tryz.ntmps20;go_wp2;generalize w.alloc (.cells #[.slice a g.nr b,.slice la g.nb lc] 28)=X at *;go_loopw [3,4] (λov iv wr=>utB X g ov iv wr) (λ_ iv _=>g.nr+g.nb-(intOf iv).toNat)
 case atStart=>exact⟨0,_,Nat.zero_le _,rfl,by rw[aw.out];rfl,ax.out⟩
 case round =>
  obtain⟨k,L,hk,rfl,hL,H⟩:=hrel;obtain⟨oa,oc,rfl⟩:=H.shape;have S:Hid (L.map IC.d=vO g k):=hL;have x:Hid (IRow X wr (.slice oa L.length oc) L):=H;have T:Hid (L.length=PL g k):=by show _=_;rw[<-xW,<-hL,List.length_map]
  have a1:=ubO y.out k hk;have p:=ue g0.out H.bel;have y1:=ue g1.out H.bel;have lw:=ud p;clear hL H;go_wp2_with fail;refine(ucE a la g.nr b g.nb lc wr i j).mono ?_;rintro e W1 ⟨rfl,W⟩;have Y:Hid (Below wr.heap.size wr W1):=W;replace p:=ue p W;replace y1:=ue y1 W;have a8:=ud p;clear W;by_cases ah:k<g.nr+g.nb
  ·have hlt':(k:Int)<((g.nr+g.nb:Nat):Int):=(by omega);have ai:Hid (Below w.heap.size w W1):=uf (uf R.out x.out.bel) Y.out;go_wp2_with fail;refine(kF (Of w) a la b lc g _ (HG.out.later ai.out) i j k ah).mono ?_;rintro e W2 ⟨⟨a2,c2,rfl,aq,ao⟩,I⟩;have Z:Hid (Below wr.heap.size wr W2):=uf Y.out I;have al:Hid (OpsA (Of w) W2 a2 (nd g k).bl (nd g k).body):=aq;have ak:Hid ((nd g k).bl<=c2):=ao;have aj:Hid (Below w.heap.size w W2):=uf ai.out I;replace p:=ue p I;replace y1:=ue y1 I;have a9:=ud p;have aa:Hid ((nd g k).bl<=2000):=uks y.out ah;clear aq ao I;by_cases V:0<(nd g k).bl
   ·have f0:(((nd g k).bl:Int)==0)=false:=(by simp;omega);have ac:Hid (M.BodyOK g.nr g.nb (nd g k).bl (nd g k).body):=(xt y.out ah).elim (λq=>by omega) id;have an:Hid (vO g (k+1)=vO g k++[opG g k]++uH (plc g) (trG g k) (PL g k+1)++[ins 11 0 0]++[ins 7 0 0]):=ud7 g k V;have r:Hid ((trG g k).len<=4000):=by
     show(M.treeE g.nr (nd g k).bl (nd g k).body).len<=4000;have:=M.wsum_bd (nd g k).body (nd g k).bl;rw[jz ac.out];have:=aa.out;omega
    have X0:Hid (X.cell? ⟨w.heap.size,0,none⟩=some (.slice a g.nr b)):=g0.out;have X1:Hid (X.cell? ⟨w.heap.size,1,none⟩=some (.slice la g.nb lc)):=g1.out;obtain⟨P,O,au,az⟩:∃P O:Int,opG g k=ins P O 0/\((k<g.nr/\P=9/\O=(k:Int))\/(¬k<g.nr/\P=10/\O=(k:Int)-(g.nr:Int))):=by
     unfold opG;by_cases e:k<g.nr
     ·exact⟨9,k,by rw[if_pos e],.inl ⟨e,rfl,rfl⟩⟩
     exact⟨10,(k:Int)-(g.nr:Int),by rw[if_neg e];congr 1;omega,.inr ⟨e,rfl,rfl⟩⟩
    have am:Hid (opG g k=ins P O 0):=au;obtain⟨U,ap⟩:∃U:Bool,decide ((g.nr:Int)<=(k:Int))=U:=⟨_,rfl⟩;clear au V;rcases az with⟨e,rfl,rfl⟩|⟨e,rfl,rfl⟩
    ·obtain rfl:U=false:=(by rw[<-ap];simp;omega);have ae:Hid (IRow X (W2.alloc (.cells #[.int .i64 9,.int .i64 (k:Int),.int .i64 0,.slice none 0 0] 86)) (.slice oa L.length oc) L):=x.out.later (uf Z.out (ui W2 _));have o:=yL (w:=W2.alloc (.cells #[.int .i64 9,.int .i64 (k:Int),.int .i64 0,.slice none 0 0] 86)) 9 (k:Int) 0 (Below.refl _ _);rw[World.size_alloc]at o;have ad:Hid _:=o;clear o;go_wp2_with (at_builtin;refine uaI (L:=L) (L2:=[ic 9 (k:Int) 0]) rfl _ _ rfl rfl rfl ae.out ad.out (by show L.length+1<=16777216;have:=T.out;omega) ?_;intro E B N a3 c3 u f h;have u0:=ue X0.out h.out.bel;have u1:=ue X1.out h.out.bel;have a0:=ud u0);have c:Hid (N=PL g k+1):=(by show _=_;rw[f.out,u.out,List.length_append,T.out];rfl);have t:Hid (Below w.heap.size w E):=uf R.out h.out.bel;have ag:Hid (Stay (Of w) W2 E):=λz J=>(t.out.block z J).trans (aj.out.block z J).symm
     refine(ucD (Of w) a la a2 b lc (nd g k).bl c2 g y.out (nd g k).body N _ _ rfl aa.out ak.out (al.out.on ag.out) ac.out (HG.out.later t.out) (by have:=c.out;omega)).mono ?_;rintro e W4 ⟨a4,n4,c4,n,rfl,ab,v,af⟩;have m:Hid (n.length=(trG g k).len):=(by show _=_;rw[(qW ab.out v.out).1,M.emit_len];rfl);go_wp2_with (first
      |(at_builtin;refine uaI (L:=B) (L2:=n) rfl _ _ rfl rfl rfl h.out af.out (by have i:=c.out;have j:=f.out;have F:=m.out;have G:=r.out;omega) ?_;intro W5 C n5 a5 c5 l G2 G3)
      |(at_builtin;refine uaI (L:=C) (L2:=[ic 11 0 0]) rfl _ _ rfl rfl rfl G3.out (yL 11 0 0 (Below.refl _ W5)) (by show C.length+1<=16777216;have i:=c.out;have j:=f.out;have F:=m.out;have G:=r.out;rw[l.out,List.length_append];omega) ?_;intro W6 D n6 a6 c6 A J2 J3)
      |(at_builtin;refine uaI (L:=D) (L2:=[ic 7 0 0]) rfl _ _ rfl rfl rfl J3.out (yL 7 0 0 (Below.refl _ W6)) (by show D.length+1<=16777216;have i:=c.out;have j:=f.out;have F:=m.out;have G:=r.out;rw[A.out,l.out,List.length_append,List.length_append];show B.length+n.length+1+1<=16777216;omega) ?_;intro W7 L7 n7 a7 c7 K1 K2 K3))
     go_roundw
     case rel =>
      refine⟨k+1,L7,by omega,by go_num,?_,K3.out⟩;rw[K1.out,A.out,l.out,u.out,an.out,am.out,List.map_append,List.map_append,List.map_append,List.map_append,S.out,v.out,c.out];rfl
     case measure=>simp[intOf];omega
    obtain rfl:U=true:=(by rw[<-ap];simp;omega);have ae:Hid (IRow X (W2.alloc (.cells #[.int .i64 10,.int .i64 ((k:Int)-(g.nr:Int)),.int .i64 0,.slice none 0 0] 86)) (.slice oa L.length oc) L):=x.out.later (uf Z.out (ui W2 _));have o:=yL (w:=W2.alloc (.cells #[.int .i64 10,.int .i64 ((k:Int)-(g.nr:Int)),.int .i64 0,.slice none 0 0] 86)) 10 ((k:Int)-(g.nr:Int)) 0 (Below.refl _ _);rw[World.size_alloc]at o;have ad:Hid _:=o;clear o;go_wp2_with (at_builtin;refine uaI (L:=L) (L2:=[ic 10 ((k:Int)-(g.nr:Int)) 0]) rfl _ _ rfl rfl rfl ae.out ad.out (by show L.length+1<=16777216;have:=T.out;omega) ?_;intro E B N a3 c3 u f h;have u0:=ue X0.out h.out.bel;have u1:=ue X1.out h.out.bel;have a0:=ud u0);have c:Hid (N=PL g k+1):=(by show _=_;rw[f.out,u.out,List.length_append,T.out];rfl);have t:Hid (Below w.heap.size w E):=uf R.out h.out.bel;have ag:Hid (Stay (Of w) W2 E):=λz J=>(t.out.block z J).trans (aj.out.block z J).symm
    refine(ucD (Of w) a la a2 b lc (nd g k).bl c2 g y.out (nd g k).body N _ _ rfl aa.out ak.out (al.out.on ag.out) ac.out (HG.out.later t.out) (by have:=c.out;omega)).mono ?_;rintro e W4 ⟨a4,n4,c4,n,rfl,ab,v,af⟩;have m:Hid (n.length=(trG g k).len):=(by show _=_;rw[(qW ab.out v.out).1,M.emit_len];rfl);go_wp2_with (first
     |(at_builtin;refine uaI (L:=B) (L2:=n) rfl _ _ rfl rfl rfl h.out af.out (by have i:=c.out;have j:=f.out;have F:=m.out;have G:=r.out;omega) ?_;intro W5 C n5 a5 c5 l G2 G3)
     |(at_builtin;refine uaI (L:=C) (L2:=[ic 11 0 0]) rfl _ _ rfl rfl rfl G3.out (yL 11 0 0 (Below.refl _ W5)) (by show C.length+1<=16777216;have i:=c.out;have j:=f.out;have F:=m.out;have G:=r.out;rw[l.out,List.length_append];omega) ?_;intro W6 D n6 a6 c6 A J2 J3)
     |(at_builtin;refine uaI (L:=D) (L2:=[ic 7 0 0]) rfl _ _ rfl rfl rfl J3.out (yL 7 0 0 (Below.refl _ W6)) (by show D.length+1<=16777216;have i:=c.out;have j:=f.out;have F:=m.out;have G:=r.out;rw[A.out,l.out,List.length_append,List.length_append];show B.length+n.length+1+1<=16777216;omega) ?_;intro W7 L7 n7 a7 c7 K1 K2 K3))
    go_roundw
    case rel =>
     refine⟨k+1,L7,by omega,by go_num,?_,K3.out⟩;rw[K1.out,A.out,l.out,u.out,an.out,am.out,List.map_append,List.map_append,List.map_append,List.map_append,S.out,v.out,c.out];rfl
    case measure=>simp[intOf];omega
   have f0:(((nd g k).bl:Int)==0)=true:=(by simp;omega);have ay:Hid (vO g (k+1)=vO g k):=ud8 g k V;clear V;go_wp2;go_roundw
   case rel=>exact⟨k+1,L,by omega,by go_num,by rw[ay.out];exact S.out,x.out.later Z.out⟩
   case measure=>simp[intOf];omega
  obtain rfl:k=g.nr+g.nb:=by omega
  go_wp2;go_ret;exact jY (x.out.since R.out |>.later Y.out) S.out
theorem ukH a:(vE a).length=a.length:=by simp[vE]
theorem ukI a b:vE (a++b)=vE a++vE b:=by simp[vE]
def blk(x:IC):Option Nat:=if x.d.sl=0 then none else x.a.map (λa=>a.block)
def ubg(l:List IC):List Nat:=l.filterMap blk
theorem ugD l m:ubg (l++m)=ubg l++ubg m:=by simp[ubg]
theorem uq1 k a t:blk (ic k a t)=none:=by simp[blk,ic,ins]
theorem ujy{S w l}(h:SetsA S w l){b}(d:b∈ubg l):S b:=by
 obtain⟨x,g,a⟩:=List.mem_filterMap.1 d;unfold blk at a;split at a
 ·cases a
 rename_i c;rcases h x g with q|⟨i,off,e,f,_⟩
 ·exact absurd q c
 rw[e]at a;simp at a;rw[<-a];exact f
structure CP(w0:World)(cb:Nat)(u0 u1:Value)(l e:List IC)(fl:List Int)(w:World)(P F S:Nat->Prop)(vp vf:Value):Prop where
 g0:w.cell? ⟨cb,0,none⟩=some u0
 g1:w.cell? ⟨cb,1,none⟩=some u1
 p:w.cell? ⟨cb,2,none⟩=some vp
 f:w.cell? ⟨cb,3,none⟩=some vf
 soft:∀j,w.frozen? ⟨cb,j,none⟩=false
 own:OwnC P w vp 4 l.length (uG l)
 ownf:OwnC F w vf 1 fl.length (vE fl)
 sets:SetsA S w (l++e)
 softS:∀b j,S b->w.frozen? ⟨b,j,none⟩=false
 rp:∀b,P b->w0.heap.size<=b/\b<w.heap.size/\b≠cb/\¬F b/\¬S b
 rf:∀b,F b->w0.heap.size<=b/\b<w.heap.size/\b≠cb/\¬S b
 rs:∀b,S b->w0.heap.size<=b/\b<w.heap.size/\b≠cb
 cb0:w0.heap.size<=cb/\cb<w.heap.size
 nodup:(ubg (l++e)).Nodup
 bel:Below w0.heap.size w0 w
def CS(w0:World)(a:Nat)(u0 u1:Value)(l e:List IC)(b:List Int)(w:World):Prop:=∃P F S d c,CP w0 a u0 u1 l e b w P F S d c
theorem ueB{w w' b j}(h:w.frozen? ⟨b,j,none⟩=false)(a:b<w.heap.size)(k:Below w.heap.size w w'):w'.frozen? ⟨b,j,none⟩=false:=(k.frozen (p:=⟨b,j,none⟩) a).trans h
theorem CP.later{w0 c u0 u1 l e d w w' P F S i g}(h:CP w0 c u0 u1 l e d w P F S i g)(k:Below w.heap.size w w'):CP w0 c u0 u1 l e d w' P F S i g:=by
 have m:=k.size;exact⟨ue h.g0 k,ue h.g1 k,ue h.p k,ue h.f k,λj=>ueB (h.soft j) h.cb0.2 k,uab h.own (λb a=>(h.rp b a).2.1) k,uab h.ownf (λb a=>(h.rf b a).2.1) k,h.sets.later k,
  λb j a=>ueB (h.softS b j a) (h.rs b a).2.1 k,λb a=>⟨(h.rp b a).1,by have:=(h.rp b a).2.1;omega,(h.rp b a).2.2⟩,λb a=>⟨(h.rf b a).1,by have:=(h.rf b a).2.1;omega,(h.rf b a).2.2⟩,λb a=>⟨(h.rs b a).1,by have:=(h.rs b a).2.1;omega,(h.rs b a).2.2⟩,
  ⟨h.cb0.1,by have:=h.cb0.2;omega⟩,h.nodup,h.bel.trans (k.mono h.bel.size)⟩
theorem CS.later{w0 a u0 u1 l e b w w'}(h:CS w0 a u0 u1 l e b w)(k:Below w.heap.size w w'):CS w0 a u0 u1 l e b w':=let ⟨P,F,S,vp,vf,h⟩:=h;⟨P,F,S,vp,vf,h.later k⟩
theorem CS.bel{w0 a u0 u1 l e b w}(h:CS w0 a u0 u1 l e b w):Below w0.heap.size w0 w:=let ⟨_,_,_,_,_,h⟩:=h;h.bel
theorem CP.plain{w0 b u0 u1 l c w P F S g e}(h:CP w0 b u0 u1 l [] c w P F S g e)k a t:CP w0 b u0 u1 l [ic k a t] c w P F S g e :=
 ⟨h.g0,h.g1,h.p,h.f,h.soft,h.own,h.ownf,by
  have:=h.sets;rw[List.append_nil]at this;exact this.app (λx d=>by simp at d;subst d;exact .inl rfl),h.softS,h.rp,h.rf,h.rs,h.cb0,by
  have:=h.nodup;rw[List.append_nil]at this;rw[ugD];simp[ubg,uq1];exact this,h.bel⟩
theorem CS.plain{w0 b u0 u1 l c w}(h:CS w0 b u0 u1 l [] c w)k a t:CS w0 b u0 u1 l [ic k a t] c w:=let ⟨P,F,S,vp,vf,h⟩:=h;⟨P,F,S,vp,vf,h.plain k a t⟩
theorem CS.fresh{w0 m u0 u1 l n w w'}(h:CS w0 m u0 u1 l [] n w)(k:Below w.heap.size w w')x(s:Ints (New w w') .i64 w' x.a x.d.sl x.d.set)(B:Soft w w'):CS w0 m u0 u1 l [x] n w':=by
 obtain⟨P,F,S,D,C,g⟩:=h;have h:=g.later k;have E:=g.bel.size;refine⟨P,F,λb=>S b\/New w w' b,D,C,h.g0,h.g1,h.p,h.f,h.soft,h.own,h.ownf,?_,?_,?_,?_,?_,h.cb0,?_,h.bel⟩
 ·have:=h.sets;rw[List.append_nil]at this;exact(this.wide (λb q=>.inl q)).app (λy i=>by simp at i;subst i;exact s.wide (λb q=>.inr q))
 ·rintro b j (q|q)
  ·exact h.softS b j q
  exact B b j q.1 q.2
 ·intro b q;have c:=h.rp b q;have o:=(g.rp b q).2.1;exact⟨c.1,c.2.1,c.2.2.1,c.2.2.2.1,λr=>r.elim c.2.2.2.2 (λr=>by have:=r.1;omega)⟩
 ·intro b q;have c:=h.rf b q;have o:=(g.rf b q).2.1;exact⟨c.1,c.2.1,c.2.2.1,λr=>r.elim c.2.2.2 (λr=>by have:=r.1;omega)⟩
 ·rintro b (q|q)
  ·exact h.rs b q
  exact⟨by have:=q.1;omega,q.2,λe=>by have:=q.1;have:=g.cb0.2;omega⟩
 have t:=h.nodup;rw[List.append_nil]at t;rw[ugD];refine List.nodup_append.2 ⟨t,?_,?_⟩
 ·unfold ubg;cases u:blk x with
  |none=>simp[u]
  |some b=>simp[u]
 intro a z b A e;subst e;have c:=ujy (by have:=g.sets;rw[List.append_nil]at this;exact this) z;have o:=(g.rs a c).2.1;have v:=ujy (S:=New w w') (w:=w') (l:=[x]) (λy i=>by simp at i;subst i;exact s) A;have:=v.1;omega
theorem CP.put{w0 d u0 u1 l x o w W P F S N C k}(h:CP w0 d u0 u1 l [x] o w P F S N C)(I:OwnC (λb=>P b\/w.heap.size<=b) W k 4 (l.length+1) (uG l++icv x))(i:Grew (λb=>P b) w W):CP w0 d u0 u1 (l++[x]) [] o (W.setCell ⟨d,2,none⟩ k) (λb=>(P b\/w.heap.size<=b)/\b<W.heap.size/\b≠d) F S k C:=by
 have O:=i.size;have Q:=h.bel.size;have t:=i.block d h.cb0.2 (λq=>(h.rp d q).2.2.1 rfl);have m:(W.setCell ⟨d,2,none⟩ k).heap.size=W.heap.size:=uj _ _ _;have n:∀j v,w.cell? ⟨d,j,none⟩=some v->W.cell? ⟨d,j,none⟩=some v:=λj v L=>(World.cell?_of_block (a:=⟨d,j,none⟩) t).trans L
 have st:Stay (λb=>F b\/S b) w (W.setCell ⟨d,2,none⟩ k):=λb c=>by
  have y:b<w.heap.size/\b≠d:=by
   rcases c with q|q
   ·exact⟨(h.rf b q).2.1,(h.rf b q).2.2.1⟩
   exact⟨(h.rs b q).2.1,(h.rs b q).2.2⟩
  rw[Below.heap_setCell _ _ _ b y.2];exact i.block b y.1 (λq=>by
   rcases c with r|r
   ·exact(h.rp b q).2.2.2.1 r
   exact(h.rp b q).2.2.2.2 r)
 refine⟨?_,?_,?_,?_,?_,?_,?_,?_,?_,?_,?_,?_,?_,?_,?_⟩
 ·rw[um (by omega)];exact n 0 _ h.g0
 ·rw[um (by omega)];exact n 1 _ h.g1
 ·exact uu (n 2 _ h.p)
 ·rw[um (by omega)];exact n 3 _ h.f
 ·intro j;rw[World.frozen?_setCell];exact(World.frozen?_of_block (a:=⟨d,j,none⟩) t).trans (h.soft j)
 ·rw[List.length_append,uc5];have e:uG [x]=icv x:=by simp[uG]
  rw[e];have D:OwnC (λb=>(P b\/w.heap.size<=b)/\b<W.heap.size/\b≠d) W k 4 (l.length+1) (uG l++icv x):=by
   rcases I with q|⟨g,cap,e,z,E,G,H,s⟩
   ·exact .inl q
   refine .inr ⟨g,cap,e,⟨z,?_,?_⟩,E,G,H,s⟩
   ·obtain⟨u,J⟩:=Option.isSome_iff_exists.1 (s 0 (by omega)).1;exact ud J
   intro e;subst e;rcases z with q|q
   ·exact(h.rp _ q).2.2.1 rfl
   have:=h.cb0.2;omega
  exact D.on (λb c=>Below.heap_setCell _ _ _ b c.2.2)
 ·exact h.ownf.on (λb c=>st b (.inl c))
 ·rw[List.append_nil];exact h.sets.on (λb c=>st b (.inr c))
 ·intro b j c;have:=st b (.inr c);exact(World.frozen?_of_block (a:=⟨b,j,none⟩) this).trans (h.softS b j c)
 ·rintro b ⟨q,A,B⟩;rw[m];rcases q with q|q
  ·have:=h.rp b q;exact⟨this.1,A,B,this.2.2.2⟩
  exact⟨by omega,A,B,λr=>by have:=(h.rf b r).2.1;omega,λr=>by have:=(h.rs b r).2.1;omega⟩
 ·intro b c;have:=h.rf b c;exact⟨this.1,by rw[m];omega,this.2.2⟩
 ·intro b c;have:=h.rs b c;exact⟨this.1,by rw[m];omega,this.2.2⟩
 ·exact⟨h.cb0.1,by rw[m];have:=h.cb0.2;omega⟩
 ·rw[List.append_nil];exact h.nodup
 refine⟨i.os.trans h.bel.os,i.tape.trans h.bel.tape,i.output.trans h.bel.output,by rw[m];omega,λb c=>?_⟩;rw[Below.heap_setCell _ _ _ b (λe=>by have:=h.cb0.1;simp at e;omega)];exact(i.block b (by omega) (λq=>by have:=(h.rp b q).1;omega)).trans (h.bel.block b c)
theorem CP.putF{w0 d u0 u1 l k z w W P F S C N m}(h:CP w0 d u0 u1 l [] k w P F S C N)(I:OwnC (λb=>F b\/w.heap.size<=b) W m 1 (k.length+1) (vE k++[.int .i64 z]))(i:Grew (λb=>F b) w W):CS w0 d u0 u1 l [] (k++[z]) (W.setCell ⟨d,3,none⟩ m):=by
 have O:=i.size;have Q:=h.bel.size;have t:=i.block d h.cb0.2 (λq=>(h.rf d q).2.2.1 rfl);have n:(W.setCell ⟨d,3,none⟩ m).heap.size=W.heap.size:=uj _ _ _;have o:∀j v,w.cell? ⟨d,j,none⟩=some v->W.cell? ⟨d,j,none⟩=some v:=λj v L=>(World.cell?_of_block (a:=⟨d,j,none⟩) t).trans L
 have st:Stay (λb=>P b\/S b) w (W.setCell ⟨d,3,none⟩ m):=λb c=>by
  have x:b<w.heap.size/\b≠d:=by
   rcases c with q|q
   ·exact⟨(h.rp b q).2.1,(h.rp b q).2.2.1⟩
   exact⟨(h.rs b q).2.1,(h.rs b q).2.2⟩
  rw[Below.heap_setCell _ _ _ b x.2];exact i.block b x.1 (λq=>by
   rcases c with r|r
   ·exact(h.rp b r).2.2.2.1 q
   exact(h.rf b q).2.2.2 r)
 refine⟨P,λb=>(F b\/w.heap.size<=b)/\b<W.heap.size/\b≠d,S,C,m,?_,?_,?_,?_,?_,?_,?_,?_,?_,?_,?_,?_,?_,h.nodup,?_⟩
 ·rw[um (by omega)];exact o 0 _ h.g0
 ·rw[um (by omega)];exact o 1 _ h.g1
 ·rw[um (by omega)];exact o 2 _ h.p
 ·exact uu (o 3 _ h.f)
 ·intro j;rw[World.frozen?_setCell];exact(World.frozen?_of_block (a:=⟨d,j,none⟩) t).trans (h.soft j)
 ·exact h.own.on (λb c=>st b (.inl c))
 ·rw[List.length_append,ukI];have D:OwnC (λb=>(F b\/w.heap.size<=b)/\b<W.heap.size/\b≠d) W m 1 (k.length+1) (vE k++[.int .i64 z]):=by
   rcases I with q|⟨g,cap,e,y,E,G,H,s⟩
   ·exact .inl q
   refine .inr ⟨g,cap,e,⟨y,?_,?_⟩,E,G,H,s⟩
   ·obtain⟨u,J⟩:=Option.isSome_iff_exists.1 (s 0 (by omega)).1;exact ud J
   intro e;subst e;rcases y with q|q
   ·exact(h.rf _ q).2.2.1 rfl
   have:=h.cb0.2;omega
  exact D.on (λb c=>Below.heap_setCell _ _ _ b c.2.2)
 ·exact h.sets.on (λb c=>st b (.inr c))
 ·intro b j c;have:=st b (.inr c);exact(World.frozen?_of_block (a:=⟨b,j,none⟩) this).trans (h.softS b j c)
 ·intro b c;have:=h.rp b c;refine⟨this.1,by rw[n];omega,this.2.2.1,λr=>?_,this.2.2.2.2⟩;rcases r.1 with q|q
  ·exact this.2.2.2.1 q
  omega
 ·rintro b ⟨q,A,B⟩;rw[n];rcases q with q|q
  ·have:=h.rf b q;exact⟨this.1,A,B,this.2.2.2⟩
  exact⟨by omega,A,B,λr=>by have:=(h.rs b r).2.1;omega⟩
 ·intro b c;have:=h.rs b c;exact⟨this.1,by rw[n];omega,this.2.2⟩
 ·exact⟨h.cb0.1,by rw[n];have:=h.cb0.2;omega⟩
 refine⟨i.os.trans h.bel.os,i.tape.trans h.bel.tape,i.output.trans h.bel.output,by rw[n];omega,λb c=>?_⟩;rw[Below.heap_setCell _ _ _ b (λe=>by have:=h.cb0.1;simp at e;omega)];exact(i.block b (by omega) (λq=>by have:=(h.rf b q).1;omega)).trans (h.bel.block b c)
def toI(x:IC)(t:Int):IC:=⟨⟨x.d.kind,x.d.arg,t,x.d.sl,x.d.set⟩,x.a,x.c⟩
theorem jG:∀(l:List IC) (i:Nat) (x:IC) (t:Int),l[i]?=some x->uG (l.set i (toI x t))=(uG l).set (i*4+2) (.int .i64 t)
 |[],i,x,t,h=>by simp at h
 |y::l,0,x,t,h=>by
  simp at h;subst h;simp[uG,icv,toI]
 |y::l,i+1,x,t,h=>by
  simp at h;rw[List.set_cons_succ,uG,uG,jG l i x t h,show(i+1)*4+2=(icv y).length+(i*4+2) by rw[ube];omega];rw[List.set_append_right _ _ (by omega)];congr 2;omega
theorem ugE:∀(l:List IC) (i:Nat) (x:IC) (t:Int),l[i]?=some x->ubg (l.set i (toI x t))=ubg l
 |[],i,x,t,h=>by simp at h
 |y::l,0,x,t,h=>by
  simp at h;subst h;have e:blk (toI y t)=blk y:=rfl;rw[List.set_cons_zero];unfold ubg;rw[List.filterMap_cons,List.filterMap_cons,e]
 |y::l,i+1,x,t,h=>by
  simp at h;have:=ugE l i x t h;rw[List.set_cons_succ];unfold ubg at *;rw[List.filterMap_cons,List.filterMap_cons,this]
theorem uoR{l:List IC}{i:Nat}{x y:IC}{t:Int}(h:l[i]?=some x)(a:y∈l.set i (toI x t)):y∈l\/y=toI x t:=by
 rcases List.mem_or_eq_of_mem_set a with q|q
 ·exact .inl q
 exact .inr q
theorem CP.aim{w0 d u0 u1 l D w P F S H g n cap i x t}(h:CP w0 d u0 u1 l [] D w P F S (.slice (some ⟨g,0,none⟩) n cap) H)(m:l[i]?=some x) :
  CP w0 d u0 u1 (l.set i (toI x t)) [] D (w.setCell ⟨g,i*4+2,none⟩ (.int .i64 t)) P F S (.slice (some ⟨g,0,none⟩) n cap) H:=by
 obtain⟨E,T⟩:P g/\True:=by
  rcases h.own with⟨q,_⟩|⟨J,I,q,G,_⟩
  ·cases q
  cases q;exact⟨G,trivial⟩
 have v:=h.rp g E;have o:(w.setCell ⟨g,i*4+2,none⟩ (.int .i64 t)).heap.size=w.heap.size:=uj _ _ _;have R:=(List.getElem?_eq_some_iff.1 m).1;have z:∀b,b≠g->(w.setCell ⟨g,i*4+2,none⟩ (.int .i64 t)).heap[b]?=w.heap[b]?:=λb c=>Below.heap_setCell _ _ _ b c
 have A:∀b j,b≠g->(w.setCell ⟨g,i*4+2,none⟩ (.int .i64 t)).cell? ⟨b,j,none⟩=w.cell? ⟨b,j,none⟩:=λb j c=>World.cell?_of_block (a:=⟨b,j,none⟩) (z b c)
 have s:d≠g:=λe=>v.2.2.1 e.symm
 refine⟨by rw[A d 0 s];exact h.g0,by rw[A d 1 s];exact h.g1,by rw[A d 2 s];exact h.p,by rw[A d 3 s];exact h.f,λj=>by rw[World.frozen?_setCell];exact h.soft j,?_,h.ownf.on (λb c=>z b (λe=>by subst e;exact v.2.2.2.1 c)),?_,λb j c=>by rw[World.frozen?_setCell];exact h.softS b j c,λb c=>by rw[o];exact h.rp b c,λb c=>by rw[o];exact h.rf b c,λb c=>by rw[o];exact h.rs b c,by rw[o];exact h.cb0,?_,?_⟩
 ·rcases h.own with⟨q,_⟩|⟨J,I,q,G,L,N,O,r⟩
  ·cases q
  cases q;rw[List.length_set];refine .inr ⟨g,cap,rfl,E,by rw[jG l i x t m,List.length_set];exact L,N,λj k=>?_,λj k=>⟨?_,?_⟩⟩
  ·rw[jG l i x t m,List.length_set]at k;rw[jG l i x t m];by_cases e:j=i*4+2
   ·subst e;obtain⟨u,C⟩:=Option.isSome_iff_exists.1 (r (i*4+2) (by omega)).1;rw[uu C,List.getElem?_set_self k]
   rw[um (by omega),O j k,List.getElem?_set_ne (by omega)]
  ·by_cases e:j=i*4+2
   ·subst e;obtain⟨u,C⟩:=Option.isSome_iff_exists.1 (r (i*4+2) k).1;rw[uu C];rfl
   rw[um (by omega)];exact(r j k).1
  rw[World.frozen?_setCell];exact(r j k).2
 ·rw[List.append_nil];have B:=h.sets;rw[List.append_nil]at B;have hs':SetsA S w (l.set i (toI x t)):=λy Q=>by
   rcases uoR m Q with q|q
   ·exact B y q
   subst q;exact B x (List.mem_of_getElem? m)
  exact hs'.on (λb c=>z b (λe=>by subst e;exact v.2.2.2.2 c))
 ·rw[List.append_nil,ugE l i x t m];have:=h.nodup;rw[List.append_nil]at this;exact this
 exact⟨h.bel.os,h.bel.tape,h.bel.output,by rw[o];exact h.bel.size,λb c=>(z b (λe=>by subst e;have:=v.1;omega)).trans (h.bel.block b c)⟩
theorem uoQ (w : World) (x : IC) : Src Tryz.prog 4 33 (.slice (some ⟨w.heap.size,0,none⟩) 1 1) 1 (icv x) (w.alloc (.cells #[.int .i64 x.d.kind,.int .i64 x.d.arg,.int .i64 x.d.to,.slice x.a x.d.sl x.c] 86)):=by
  refine Src.ofSlice (P:=Tryz.prog) _ Tryz.underlying33 ⟨w.heap.size,0,none⟩ 1 1 (icv x) rfl (fun j u b=>?_) (fun u b=>?_)
  · have e':(⟨w.heap.size,0,none⟩:Addr).add j=⟨w.heap.size,j,none⟩:=by
      by_cases e:j=0
      · subst e;simp [Addr.add]
      · simp [Addr.add,e]
    rw [e']
    match j,b with
    | 0,b=>exact cN w.heap.size rfl b
    | 1,b=>exact cN w.heap.size rfl b
    | 2,b=>exact cN w.heap.size rfl b
    | 3,b=>exact cN w.heap.size rfl b
    | j+4,b=>simp [icv] at b
  · simp [icv] at b
    rcases b with rfl | rfl | rfl | rfl <;> rfl
def usz (w0 : World) (b : Nat) (u0 u1 : Value) (l : List IC) (c : List Int) (F S : Nat->Prop) (d : Value) (n : Nat) (e : Ending) (w' : World) : Prop :=
  e = .returned (.int .i64 (n:Int))/\∃ a f,CP w0 b u0 u1 l [] c w' a F S f d
theorem uh8 w0 b u0 u1 l x g w P F S u k(h : CP w0 b u0 u1 l [x] g w P F S u k)(C : l.length<=200000) :
    Calls Tryz.prog 34 #[.pointer (some ⟨b,0,none⟩),.agg #[.int .i64 x.d.kind,.int .i64 x.d.arg,.int .i64 x.d.to,.slice x.a x.d.sl x.c]] w (usz w0 b u0 u1 (l ++ [x]) g F S k l.length):=by
  obtain ⟨i,j,rfl⟩:=uk h.own
  have f:Hid (CP w0 b u0 u1 l [x] g (w.alloc (.cells #[.int .i64 x.d.kind,.int .i64 x.d.arg,.int .i64 x.d.to,.slice x.a x.d.sl x.c] 86)) P F S (.slice i l.length j) k):=h.later (ui w _)
  have z:(w.alloc (.cells #[.int .i64 x.d.kind,.int .i64 x.d.arg,.int .i64 x.d.to,.slice x.a x.d.sl x.c] 86)).cell? ⟨w.heap.size,0,none⟩=some (.int .i64 x.d.kind):=cN w.heap.size rfl rfl
  have L:(w.alloc (.cells #[.int .i64 x.d.kind,.int .i64 x.d.arg,.int .i64 x.d.to,.slice x.a x.d.sl x.c] 86)).cell? ⟨w.heap.size,1,none⟩=some (.int .i64 x.d.arg):=cN w.heap.size rfl rfl
  have N:(w.alloc (.cells #[.int .i64 x.d.kind,.int .i64 x.d.arg,.int .i64 x.d.to,.slice x.a x.d.sl x.c] 86)).cell? ⟨w.heap.size,2,none⟩=some (.int .i64 x.d.to):=cN w.heap.size rfl rfl
  have O:(w.alloc (.cells #[.int .i64 x.d.kind,.int .i64 x.d.arg,.int .i64 x.d.to,.slice x.a x.d.sl x.c] 86)).cell? ⟨w.heap.size,3,none⟩=some (.slice x.a x.d.sl x.c):=cN w.heap.size rfl rfl
  clear h
  go_enter Tryz.func34,Tryz.ntmps34
  go_wp2
  generalize w.alloc (.cells #[.int .i64 x.d.kind,.int .i64 x.d.arg,.int .i64 x.d.to,.slice x.a x.d.sl x.c] 86)=X at *
  have p2:=f.p
  have G:=f.soft 2
  have D:=f.cb0.2
  have E:=ud z
  have e:Hid (CP w0 b u0 u1 l [x] g (X.drew.alloc (.cells #[.int .i64 x.d.kind,.int .i64 x.d.arg,.int .i64 x.d.to,.slice x.a x.d.sl x.c] 86)) P F S (.slice i l.length j) k):=f.out.later ((Below.refl _ X).drew.trans (ui X.drew _))
  have H:(X.alloc (.cells #[.int .i64 x.d.kind,.int .i64 x.d.arg,.int .i64 x.d.to,.slice x.a x.d.sl x.c] 86)).cell? ⟨b,2,none⟩=some (.slice i l.length j):=uA _ p2
  go_region_law (first
    | (refine ujp rfl (.tmp 9) (.tmp 11) 33 33 rfl (v:=.slice i l.length j) (y:=.slice (some ⟨X.heap.size,0,none⟩) 1 1) (by simp [Act.eval]) (by simp [Act.eval]) uh6 e.own (uoQ X.drew x) (by omega) (fun _=>Nat.one_pos) ?_
       intro J W4 o n t
       obtain ⟨A,B,rfl⟩:=uk o
       have r:=e.put o n
       have m:=n.block b e.cb0.2 (fun q=>(e.rp b q).2.2.1 rfl)
       have r2:=(World.cell?_of_block (a:=⟨b,2,none⟩) m).trans e.p
       have I:=(World.frozen?_of_block (a:=⟨b,2,none⟩) m).trans (e.soft 2)
       have s:=ua r
       clear o n t r m))
  all_goals go_goals
  all_goals go_wp2
  all_goals go_ret
  all_goals exact ⟨uD (by omega),_,_,s⟩
theorem ucT w0(a : Nat)u0 u1 l b w(i : Nat)x(h : CS w0 a u0 u1 l [] b w)(d : l[i]? = some x)(z : l.length<=200000) :
    Calls Tryz.prog 117 #[.pointer (some ⟨a,0,none⟩),.int .i64 (i:Int)] w fun e w'=>(∃ v,e = .returned v)/\CS w0 a u0 u1 (l.set i (toI x (l.length:Int))) [] b w':=by
  obtain ⟨P,F,S,o,n,h⟩:=h
  have y:=(List.getElem?_eq_some_iff.1 d).1
  obtain ⟨g,cap,rfl,c⟩:∃ g cap,o = .slice (some ⟨g,0,none⟩) l.length cap/\Wr w g (cap*4)/\l.length<=cap:=by
    rcases h.own with ⟨_,q,_⟩ | ⟨g,cap,e,A,r,j,s,k⟩
    · omega
    · exact ⟨g,cap,e,k,j⟩
  have f:Hid (CP w0 a u0 u1 (l.set i (toI x (l.length:Int))) [] b (w.drew.setCell ⟨g,i*4+2,none⟩ (.int .i64 (l.length:Int))) P F S (.slice (some ⟨g,0,none⟩) l.length cap) n):=(h.later (Below.refl _ w).drew).aim d
  have p2:=h.p
  have B:=h.cb0.2
  obtain ⟨u,m⟩:=Option.isSome_iff_exists.1 (c.1 (i*4+2) (by omega)).1
  have t:=(c.1 (i*4+2) (by omega)).2
  have C:=ud m
  have hi':(i:Int)<(l.length:Int):=by omega
  go_enter Tryz.func117,Tryz.ntmps117
  go_wp2
  go_region
  all_goals go_wp2
  all_goals go_end0
  all_goals exact ⟨⟨_,rfl⟩,_,_,_,_,_,f⟩
end Go.Proofs.YtimfigongapdnaaGreat
