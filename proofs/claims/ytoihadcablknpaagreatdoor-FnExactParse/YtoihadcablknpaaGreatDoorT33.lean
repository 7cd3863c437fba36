import Derived.Test.YtoihadcablknpaaGreatDoorT32
import Derived.Test.YtoihadcablknpaaGreatDoorT30
set_option linter.unusedVariables false
set_option linter.unusedSimpArgs false
set_option linter.defProp false
set_option maxHeartbeats 40000000
set_option maxRecDepth 100000
namespace Go.Proofs.YtoihadcablknpaaGreatDoor
open Go.RowKit
open Go.Proofs.Tryz
section
open M (OpD uh Gr)
def uqZ:(prog.info? 237).map (λi=>(i.zero,i.size,i.bytes))=some (some (.agg #[.string ⟨#[]⟩,Iv 0,Bf,.nilIface]),4,48):=rR
def uq0:vA 178 237 4 48:=⟨underlying178,⟨_,uqZ,rfl⟩,oM⟩
def Lv(q:Rl)(v:Vl):List Value:=[.string (str q.f.nm.length (lf q.f.nm)),Iv (q.f.f:Nat),.bool q.a.isSome,v]
abbrev PU(q:Rl)(v:Vl):Obj:=.cells #[.string (str q.f.nm.length (lf q.f.nm)),Iv (q.f.f:Nat),.bool q.a.isSome,v] 237
def Iw(X:Np)(w:Wl):List Rl->List Value->Prop
 |[],cs=>cs = []
 |q::r,cs=>∃ty u d,cs=Lv q (.iface ty u)++d/\Ev X w q.e (.iface ty u)/\Iw X w r d
def Vw(D X:Np)(w:Wl)(v:Vl)(a:List Rl):Prop:=∃cs,wC D w v 4 a.length cs/\Iw X w a cs
section
variable {X X' D:Np} {w w' W W':Wl} {v u:Vl} {qs:List Rl} {q:Rl} {cs:List Value} {ty:TypeId} {K:RK} {z z1:RZ} {P:Ew}
def Iw.mv(m:Ay X w X' w'):∀{a:List Rl} {cs:List Value},Iw X w a cs->Iw X' w' a cs
 |[],_,h=>h
 |_::_,_,⟨ty,u,d,e,h1,h2⟩=>⟨ty,u,d,e,h1.mv m,Iw.mv m h2⟩
def Iw.d(a:Ev X w q.e (.iface ty u)):∀{b:List Rl} {cs:List Value},Iw X w b cs->Iw X w (b++[q]) (cs++Lv q (.iface ty u))
 |[],_,h=>⟨ty,u,[],by rw[show _ = [] from h];simp,a,rfl⟩
 |_::_,_,⟨ty,u,d,e,h1,h2⟩=>⟨ty,u,d++_,by rw[e,zU],h1,Iw.d a h2⟩
def yG(a:List Rl):List wH:=a.flatMap (λq=>q.e.b)
def ja(b:List Rl):List wH:=b.flatMap (λq=>q.e.a)
structure RK.DS(K:RK)(z:RZ)(qs:List Rl)(W:Wl):Prop where
 st:K.S z W
 y:Vw K.D (K.X z) W K.v6 qs
 rf:z.rf=yG qs
 th:z.th=ja qs
 c:qs.length+z.l.length<=1000000
def RK.S.dc(s:K.S z W):∀b,K.D b->¬K.C z b:=λb q c=>c.elim (s.d b q).2 (λc=>c.elim (λc=>(s.a b c).2.2.2 q) (λc=>(s.b b c).2.2 q))
def RK.DS.k(s:K.S z W)(G:Vw K.D (K.X z) W K.v6 qs)(B:qs.length<=1000000)(H:Ev (K.X z) W q.e (.iface ty u)) :
  ∃a c W' f,(Builtin.append_ #[178,178] 178 #[K.v6,Sl (Sm W.heap.size 0) 1 1]).run prog (W.alloc (PU q (.iface ty u)))=.ok (Sl a (qs.length+1) c) W'/\wJ W' K.rb (Pq K.t (K.rv z) K.ta z.i)/\wA K.D W W' /\
  ({ K with v6:=Sl a (qs.length+1) c,D:=f }:RK).S z (W'.setCell (Ad K.rb 6) (Sl a (qs.length+1) c))/\Vw f (({ K with v6:=Sl a (qs.length+1) c,D:=f }:RK).X z) (W'.setCell (Ad K.rb 6) (Sl a (qs.length+1) c)) (Sl a (qs.length+1) c) (qs++[q]) /\
  Ay (K.X z) W (({ K with v6:=Sl a (qs.length+1) c,D:=f }:RK).X z) (W'.setCell (Ad K.rb 6) (Sl a (qs.length+1) c)):=by
 obtain⟨cs,y,A⟩:=G;obtain⟨a,c,W',E,C,k⟩:=qW (o:=PU q (.iface ty u)) (news:=Lv q (.iface ty u)) uq0 y (λb q=>(s.d b q).1) (vC underlying178 rfl (λj u v=>by rw[(um W _ 237).x.1 j,<-v];simp[Lv]) (λu v=>by
   simp only[Lv,Bx,Jp,or_false]at v;rcases v with rfl|rfl|rfl|rfl<;>rfl)) B oM
 have I:=k.h;have F:=s.sc.e.x.2.2;have w:=s.sc.e.a (k.d _ F (λq=>(s.d _ q).2 rfl));have st:∀b,b≠K.rb->(W'.setCell (Ad K.rb 6) (Sl a (qs.length+1) c)).heap[b]?=W'.heap[b]?:=λb n=>zJ _ n
 have m:Ay (K.X z) W (({ K with v6:=Sl a (qs.length+1) c,D:=λb=>(K.D b\/W.heap.size<=b)/\b<W'.heap.size }:RK).X z) (W'.setCell (Ad K.rb 6) (Sl a (qs.length+1) c)) :=
  ⟨(k.l (λ_ q=>.inr q)).c (zP (.inl (.inl rfl))),λb q=>q.elim (λq=>.inl (.inl q)) (λq=>q.1.imp .inr id)⟩
 refine⟨a,c,W',_,E,w,k,⟨⟨w.set 6 _,(ym s.q m).g (λb n=>⟨n.1,λe=>n.2 (.inl (.inl e))⟩),s.sc.le⟩,ym s.q m,ym s.set m,s.j.on (λb q=>(st b (s.a b q).2.1).trans (k.d b (s.a b q).1 (s.a b q).2.2.2)) (λ_ q=>q),s.m.on (λb q=>(st b (s.b b q).2.1).trans (k.d b (s.b b q).1 (s.b b q).2.2)) (λ_ q=>q),s.left,λb q=>?_,λb q=>?_,λb q=>?_,s.p,s.r,s.e,s.u,s.tn⟩,
  ⟨_,by rw[wK,Bs];exact C.on (λb q=>st b (λe=>q.1.elim (λq=>(s.d b q).2 e) (λq=>oM))),Iw.d (H.mv m) (A.mv m)⟩,m⟩
 ·exact⟨by rw[uj];have:=(s.a b q).1;omega,(s.a b q).2.1,(s.a b q).2.2.1,λx=>x.1.elim (s.a b q).2.2.2 (λx=>oH ((s.a b q).1))⟩
 ·exact⟨by rw[uj];have:=(s.b b q).1;omega,(s.b b q).2.1,λx=>x.1.elim (s.b b q).2.2 (λx=>oH ((s.b b q).1))⟩
 exact⟨by rw[uj];exact q.2,q.1.elim (λq=>(s.d b q).2) (λq e=>by have e':b=K.rb:=e;omega)⟩
def uq1{n}{c:Option wH}{l}(h:∀y r,l=y::r->y.e≠110):vP n c l=.inl (pos n l):=by
 cases l with
 |nil=>rfl
 |cons y r=>simp only[vP];rw[Zn (h y r rfl)];rfl
def PV{n}{c:Option wH}{x l}(a:x.e=110)(h:∀y r,l=y::r->y.e≠61):vP n c (x::l)=.inl (pos n l):=by
 simp only[vP];rw[Zp a];cases l with
 |nil=>rfl
 |cons y r=>simp only;rw[Zn (h y r rfl)];rfl
def PW{n}{c:Option wH}{x y l p}(b:x.e=110)(d:y.e=61)(h:Ib (rd n (8*l.length+8) 5 .emp l) p):vP n c (x::y::l)=.inl p:=by
 simp only[vP];rw[Zp b,Zp d];rcases h with q|⟨e,z,l',q,f,a⟩
 ·rw[q]
 rw[q];simp only;rw[Zn oM,a]
def ulR{n}{c:Option wH}{x y l l2 e}(b:x.e=110)(d:y.e=61)(a:rd n (8*l.length+8) 5 .emp l=.inr (e,l2))(h:∀z r,l2=z::r->z.e≠59):vP n c (x::y::l)=.inl (pos n l2):=by
 simp only[vP];rw[Zp b,Zp d,a];cases l2 with
 |nil=>rfl
 |cons z r=>simp only;rw[Zn (h z r rfl)];rfl
def PY{n}{c:Option wH}{x y z l l2 e}(b:x.e=110)(d:y.e=61)(a:rd n (8*l.length+8) 5 .emp l=.inr (e,z::l2))(h:z.e=59):vP n c (x::y::l)=.inr (⟨c,x,y,e,z⟩,l2):=by
 simp only[vP];rw[Zp b,Zp d,a];simp only;rw[Zp h]
def CD(R:Sum Nat (Rl×List wH))(p:Nat):Prop:=R=.inl p\/∃q y l,R=.inr (q,y::l)/\y.e=0/\y.f=p
def uq2(s:K.S z W)(ok:∀b a W1,vK K.t.n z.l=vP K.t.n b a.l->a.l.length<=z.l.length->K.S a W1->K.M z W a W1 [] []->P (Rt (.bool b.isSome)) W1)(bad:∀p W1,vK K.t.n z.l=.inl p->wA (K.C z) W W1->P (.panicked (Fq 5 (p:Nat))) W1):Cs 158 #[rp K.rb,Bv 94] W P:=by
 refine jr s oM oM oM (λh=>?_) (λa W1 h e f d=>?_) (λy W1 h e g c=>?_)
 ·refine ok none z W ?_ wF s (.e _ _ _);cases q:z.l with
  |nil=>rfl
  |cons y r =>
   obtain rfl:=s.h q;simp only[vK];rw[Zn h]
 ·refine ok (some z.k) a W1 ?_ (by rw[e];simp) f d;rw[e];simp only[vK];rw[Zp h]
 refine bad _ _ ?_ c;rw[e];simp only[vK];rw[Zp h];simp only[vP];rw[Zn oM]
structure RK.Ru(K:RK)(z:RZ)(qs:List Rl)(W:Wl)(P:Ew):Prop where
 ok:∀q v6 D z' W' v,vK K.t.n z.l=.inr (q,z'.l)->({ K with v6:=v6,D:=D }:RK).DS z' (qs++[q]) W'->Ay (K.X z) W (({ K with v6:=v6,D:=D }:RK).X z') W'->z'.l.length+1<=z.l.length->P (Rt v) W'
 bad:∀p W',CD (vK K.t.n z.l) p->wA (K.X z) W W'->P (.panicked (Fq 5 (p:Nat))) W'
def ujd(s:K.DS z qs W)(ak:K.Ru z qs W P):Cs 125 #[rp K.rb] W P:=by
 have A:=ua s;have NX:=ua ak;have F:Hid (∀p W',CD (vK K.t.n z.l) p->wA (K.C z) W W'->P (.panicked (Fq 5 (p:Nat))) W'):=λp W' h k=>NX.bad p W' h (k.l (λ_ q=>.inl q))
 go_enter func125,ntmps125;go_wp2_with fail;refine uq2 A.st (λT o W1 U n1 s1 m1=>?_) (λp W1 U k1=>?_)
 rotate_left
 ·have w:=ua (F _ _ (.inl U) k1);go_wp2;exact⟨rfl,w⟩
 have Q:=ua U;obtain⟨bv,ab⟩:=nm T.isSome;have ad:=ua ab;rw[ab];go_wp2_with fail;refine js s1 (β:=110) oM (Vv s1.e) (λz2 W2 g e2 s2 m2=>?_) (λp W2 G k2=>?_)
 rotate_left
 ·have w:=ua (F p W2 (by
   rcases G with⟨i,g⟩|⟨y,i,g,L,B⟩
   ·exact .inl (Q.trans (by rw[g];exact uq1 (λy r e=>by rw[s1.h e];exact i)))
   exact .inl (Q.trans (by rw[g,B];exact PV i (λy' r e=>by injection e with e;rw[<-e];omega)))) (m1.m k2))
  go_wp2;exact⟨rfl,w⟩
 have R:=ua (Q.trans (by rw[e2]));have E:=ua g;have ag:=zD List.length e2;simp at ag;obtain⟨sy,ac⟩:=nm (str o.k.nm.length (lf o.k.nm));have ae:=ua ac;obtain⟨sm,aj⟩:=nm o.k.set.length;obtain⟨kv,af⟩:=nm (kk o.k.e);unfold Ic;rw[af,ac,aj];generalize aa:W2.alloc (Oc #[Bv kv,Iv (o.k.f:Nat),.string sy,Sl o.sa sm o.sc] 177)=W3;have V:Kf W2 W3:=aa▸wU;have B3:Hid (wJ W3 W2.heap.size #[Bv kv,Iv (o.k.f:Nat),.string sy,Sl o.sa sm o.sc]):=aa▸um W2 _ _;have S2:=ua s2;have s3:=s2.kp V;have N:=((m1.c m2).c (.of V));have K3:=ua V;go_wp2_with fail;refine js s3 (β:=61) oM (qz s3.e oM oM) (λz4 W4 B e4 s4 O=>?_) (λp W4 G k4=>?_)
 rotate_left
 ·have w:=ua (F p W4 (by
   rcases G with⟨i,g⟩|⟨y,i,g,L,B⟩
   ·exact .inl (R.trans (by rw[g];exact PV E (λy r e=>by rw[s3.h e];exact i)))
   exact .inl (R.trans (by rw[g,B];exact PW E i (vL _ _ 5 .emp y [] L)))) (N.m k4))
  go_wp2;exact⟨rfl,w⟩
 have I:=ua (R.trans (by rw[e4]));have J:=ua B;have ah:=zD List.length e4;simp at ah;unfold Ic;go_wp2_with fail;refine(CB _ (8*z4.l.length+8) wF).2.2.2.2 K z4 W4 _ s4 oM ⟨λx z5 ty u W5 e5 s5 Y t5 n5=>?_,λp W5 hb k5=>?_⟩
 rotate_left
 ·go_wp2;exact⟨rfl,F _ _ (.inl (I.trans (PW E J hb))) ((N.c O).m k5)⟩
 have S:=ua e5;go_wp2_with fail;refine js s5 (β:=59) oM (qz s5.e oM oM) (λz6 W6 h6 e6 s6 Z=>?_) (λp W6 G k6=>?_)
 rotate_left
 ·have w:=ua (F p W6 (by
   rcases G with⟨i,g⟩|⟨y,i,g,L,B⟩
   ·exact .inl (I.trans (by rw[g];exact ulR E J S (λz r e=>by rw[s5.h e];exact i)))
   exact .inr ⟨_,y,[],I.trans (PY E J (by rw[S.o,g]) i),L,B.symm⟩) (((N.c O).c Y).m k6))
  go_wp2;exact⟨rfl,w⟩
 have E6:=ua (I.trans (PY E J (by rw[S.o,e6]) h6));have ai:=zD List.length e6;simp at ai;have H:=((((N.c O).c Y).f Z).f (.of (Bz W6)));have hD:=A.st.dc;have al:Vw K.D (K.X z6) W6.drew K.v6 qs:=let ⟨cs,i,g⟩:=A.y;⟨cs,i.on (λb q=>H.kp.d b (A.st.d b q).1 (hD b q)),g.mv H.d⟩
 have sd:=s6.kp (Bz W6);have an:=A.c;obtain⟨a,c,W7,D',hr,bx,k7,s7,am,m7⟩:=RK.DS.k (q:=⟨T,o.k,z2.k,x,z5.k⟩) sd al oM ((t5.mv Z.d).mv (Ay.d (Bz W6)));have HR:Hid ((Builtin.append_ #[178,178] 178 #[K.v6,Sl (Sm W6.drew.heap.size 0) 1 1]).run prog (W6.drew.alloc (Oc #[.string sy,Iv (o.k.f:Nat),.bool bv,.iface ty u] 237))=.ok (Sl a (qs.length+1) c) W7):=(by show _=_;rw[<-ae.o,<-ad.o];exact hr);have w:=ua (λv=>NX.ok ⟨T,o.k,z2.k,x,z5.k⟩ _ D' z6 _ v E6 ⟨s7,am,by rw[H.rf,A.o.rf];simp[yG],by rw[H.th,A.o.th];simp[ja],sO⟩ (H.d.c m7) oM);have M6:=((O.c Y).c Z);have lv:=B3.x.2.2;have B6:=B3.a (M6.kp.d _ lv (λq=>oH (S2.x _ (.inl q))));obtain⟨q1,p1,l1⟩:=s6.sc.e.x;obtain⟨q2,p2,l2⟩:=B6.x;obtain⟨q3,p3,l3⟩:=bx.x;obtain⟨q4,p4,l4⟩:=(B6.a (w':=W7) ((k7.d _ l2 (λq=>oH ((S2.d _ q).1))).trans ((wA.j (λ_=>False) W6).d _ l2 (λe=>e)))).x;generalize qs.length+1=nn at *;unfold Ic;go_wp2_with fail;go_region_law (refine Pn rfl (.tmp 19) (.tmp 27) rfl (by simp[Act.eval,RK.rv]) (by simp[Act.eval]) HR.o ?_);all_goals (
  go_wp2;exact wL (results_none rfl _ _ _) rfl (w _))
end
end
section
open M (OpD uh Gr)
def zn{n y l}(h:y.e=0):vK n (y::l)=.inl y.f:=by
 simp only[vK];rw[Zn oM];simp only[vP];rw[Zn oM]
def OO{n f y l}(h:y.e=0):vQ n (f+1) (y::l)=.inl y.f:=by
 simp only[vQ];rw[zn h]
def Pl(a:List Rl):Sum Nat (List Rl)->Sum Nat (List Rl)
 |.inl p=>.inl p
 |.inr q=>.inr (a++q)
def zo{n f l a q}b(h:vK n l=.inr (q,a)):Pl b (vQ n (f+1) l)=Pl (b++[q]) (vQ n f a):=by
 cases l with
 |nil=>simp[vK]at h
 |cons x r =>
  simp only[vQ];rw[h];simp only;cases vQ n f a with
  |inl p=>rfl
  |inr z=>simp[Pl]
def zp{n f l p}k(e:l≠[])(d:l.length<f+1)(i:∀q a,vK n l=.inr (q,a)->a.length<l.length)(h:CD (vK n l) p):Pl k (vQ n (f+1) l)=.inl p:=by
 cases l with
 |nil=>exact absurd rfl e
 |cons x r =>
  simp only[vQ];rcases h with h|⟨q,y,l',h,j,c⟩
  ·rw[h];rfl
  rw[h];have b:=i _ _ h;simp only[zQ]at b d;obtain⟨g,rfl⟩:∃g,f=g+1:=⟨f-1,oM⟩;simp only;rw[OO j,c];rfl
def zq{n l}:∀q a,vK n l=.inr (q,a)->a.length<l.length:=by
 intro q a h;cases l with
 |nil=>simp[vK]at h
 |cons x r =>
  obtain⟨_,b,_⟩:=(KA n (x::r) sM).2 q a h;rw[b,wK];simp[Rl.tk];omega
def BO(a:Oa)(b:Nat):Rv:=⟨a,b,Bv 0,Iv 0,.string ⟨#[]⟩,nS,nS,nS,nS⟩
section
variable {rb:Nat} {t:Tx} {ta:Oa} {tc:Nat} {W W':Wl} {P:Ew}
structure zr(rb:Nat)(t:Tx)(ta:Oa)(tc:Nat)(W:Wl)(P:Ew):Prop where
 ok:∀qs v6 D z W' v,vQ t.n ((uI t).length+1) (uI t)=.inr qs->(RK.mk rb t ta tc v6 D).DS z qs W'->Ay (λb=>b=rb) W ((RK.mk rb t ta tc v6 D).X z) W'->P (Rt v) W'
 bad:∀p W',vQ t.n ((uI t).length+1) (uI t)=.inl p->KB rb W W'->P (.panicked (Fq 5 (p:Nat))) W'
def BP(F:Nat)(rb:Nat)(t:Tx)(c:Oa)(d:Nat)(W:Wl)(v:Vl)(wr:Wl):Prop :=
 ∃f a v6 D z,z.l.length<f/\vQ t.n F (uI t)=Pl a (vQ t.n f z.l)/\(RK.mk rb t c d v6 D).DS z a wr/\Ay (λb=>b=rb) W ((RK.mk rb t c d v6 D).X z) wr
def zs(s:Sc rb t (BO ta tc) 0 W)(Q:t.n<=tc)(E:t.n<=4000)(ae:zr rb t ta tc W P):Cs 98 #[rp rb] W P:=by
 have C:=ua ae;have SS:=ua s;have ad:(uI t).length<=8000:=wN (jH _) (wN (Uh t).2 oM);have ab:=ua ad;go_enter func98,ntmps98;go_wp2_with fail;refine ON s Q ⟨λW1 k j sa sc v e o S i1 G=>?_,λW1 J o G=>?_⟩
 rotate_left
 ·have m:=ua (C.o.bad (skip t 0) W1 (by obtain⟨x,e,u,ha⟩:=PR (.inl ⟨rfl,by show(1:Int)≠0;omega,wP⟩:Left t (⟨1,0,[],[]⟩:wH) 0 (⟨1,0,[],[]⟩::Ka t 0)) J o;rw[show uI t = [x] from e,OO u,ha]) G);clear J o;go_wp2;exact⟨rfl,m.o⟩
 have I:Hid (∀v,BP ((uI t).length+1) rb t ta tc W v W1):=λv=>(by
  have hl:Left t (⟨1,0,[],[]⟩:wH) 0 (⟨1,0,[],[]⟩::Ka t 0):=.inl ⟨rfl,by show(1:Int)≠0;omega,wP⟩;have E:=PQ hl (by rw[e];exact o);have F:=PS t 0;rw[e]at E F;have u:∀{R:IntKind} {a:Oa} {n:Nat} {T:Nat->Int},wB (λb=>b<W1.heap.size/\b≠rb) R W1 a n T->wB (Out ((RK.mk rb t ta tc nS (λ_=>False)).X ⟨nS,nS,k,sa,sc,j,uI t,[],[],λ_=>False,λ_=>False⟩) W1) R W1 a n T:=λh=>h.g (λb q=>⟨q.1,λx=>x.elim (λx=>x.elim q.2 (λx=>x.elim id id)) id⟩)
  have hr:=SS.o.e.x.2.2;have ag:=ab.o;refine⟨(uI t).length+1,[],nS,λ_=>False,⟨nS,nS,k,sa,sc,j,uI t,[],[],λ_=>False,λ_=>False⟩,Jb _,by cases vQ t.n ((uI t).length+1) (uI t)<;>rfl,⟨⟨S,u S.q,u (i1.g (λb q=>⟨q.2,λe=>by have:=q.1;omega⟩)),⟨[],.inl ⟨rfl,rfl,rfl⟩,rfl⟩,⟨[],.inl ⟨rfl,rfl,rfl⟩,rfl⟩,E,λ_ q=>q.elim,λ_ q=>q.elim,λ_ q=>q.elim,Q,F.1,F.2,by show 0+0+(uI t).length<=_;omega,by show t.n<=_;omega⟩,⟨[],.inl ⟨rfl,rfl,rfl⟩,rfl⟩,rfl,rfl,by show 0+(uI t).length<=_;omega⟩,⟨G,λb q=>q.elim (λq=>q.elim .inl (λq=>q.elim (λq=>q.elim) (λq=>q.elim))) (λq=>q.elim)⟩⟩)
 clear e o;go_wp2;go_loopw [4] (BP ((uI t).length+1) rb t ta tc W) (λ_ wr=>lenM t rb wr)
 ·exact I.o _
 clear I;obtain⟨f,w,v6,D,z,r,L,i,O⟩:=hrel;have A:=ua L;have Y:=ua i.st.s;have H:=ua i;have B:=ua O;have c2:wr.cell? (Ad rb 2)=some (Bv (kk z.k.e)):=i.st.sc.e.x.1 2;have y:=ua ((qz i.st.e oM oM).trans i.st.left.e.symm:kk z.k.e=0↔z.l = []);clear L i O;generalize kk z.k.e=c at *;by_cases N:c=0
 ·subst N;have m:=ua (λv=>C.o.ok w v6 D z wr v (by
   obtain⟨g,rfl⟩:∃g,f=g+1:=⟨f-1,oM⟩;rw[A.o,y.o.1 rfl];simp[vQ,Pl]) H.o B.o)
  go_wp2;exact wL (results_none rfl _ _ _) rfl (m.o _)
 have aa:Hid (z.l≠[]):=λq=>N (y.o.2 q)
 have hf':=ua r;clear y r;go_wp2_with fail;refine ujd (K:=RK.mk rb t ta tc v6 D) (P:=_) H.o ⟨λq af V z' W2 v e U m2 n2=>?_,λp W2 hb k2=>?_⟩
 ·have ac:Hid (∀v,BP ((uI t).length+1) rb t ta tc W v W2):=λv=>(by
   have r:=hf'.o;obtain⟨g,rfl⟩:∃g,f=g+1:=⟨f-1,oM⟩;exact⟨g,w++[q],af,V,z',oM,A.o.trans (zo w e),U,B.o.c m2⟩)
  have Z:=ua U.st.s;clear e;go_wp2;go_roundw
  ·exact ac.o _
  rw[Y.o];exact wX (Nat.lt_of_le_of_lt (Nat.le_of_eq Z.o) (Jb _)) n2
 have m:=ua (C.o.bad p W2 (by
  have r:=hf'.o;obtain⟨g,rfl⟩:∃g,f=g+1:=⟨f-1,oM⟩;exact A.o.trans (zp w aa.o oM zq hb)) (B.o.c (Ay.d k2)).kp)
 go_wp2;exact⟨rfl,m⟩
end
end
section
open M (OpD uh Gr)
def yD(b:List Rl):List LI:=(b.filter (λq=>q.a.isSome)).map (λq=>q.f.nm)
def zX(a:List LI)(z:LI):Nat:=a.idxOf z
def OY b q:ug (b++[q])=if q.a.isSome then ug b else ug b++[q.f.nm]:=by
 unfold ug;rw[List.filter_append,Cl];cases h:q.a with
 |none=>simp[h]
 |some c=>simp[h]
def l1 b q:yD (b++[q])=if q.a.isSome then yD b++[q.f.nm] else yD b:=by
 unfold yD;rw[List.filter_append,Cl];cases h:q.a.isSome<;>simp[h]
def jq{a:List Rl}{k:Nat}{q:Rl}(h:a[k]?=some q):a.take (k+1)=a.take k++[q]:=by
 rw[Hu,h];rfl
def w8{a:List Rl}{k:Nat}{q:Rl}(h:a[k]?=some q):a.drop k=q::a.drop (k+1):=by
 obtain⟨b,e⟩:=zT.1 h;rw[Qj b,e]
def BV seen q:seen.any (λs=>xH s q)=true↔q.f.nm∈(if q.a.isSome then yD seen else ug seen):=by
 rw[List.any_eq_true];unfold xH yD ug;cases h:q.a.isSome
 ·simp only[Kd,beq_iff_eq,decide_eq_true_eq,Dc,Ik,Kr,if_false];constructor
  ·rintro⟨s,b,c,d⟩;exact⟨s,⟨b,by rw[c];rfl⟩,d⟩
  rintro⟨s,⟨b,c⟩,d⟩;exact⟨s,b,by simpa using c,d⟩
 simp only[Kd,beq_iff_eq,decide_eq_true_eq,Dc,Ik,if_true];constructor
 ·rintro⟨s,b,c,d⟩;exact⟨s,⟨b,c⟩,d⟩
 rintro⟨s,⟨b,c⟩,d⟩;exact⟨s,b,c,d⟩
def w9{b:List Rl}{k:Nat}{q:Rl}(h:b[k]?=some q):yM (b.take k) (b.drop k)=if q.f.nm∈(if q.a.isSome then yD (b.take k) else ug (b.take k)) then some q.f.f else yM (b.take (k+1)) (b.drop (k+1)):=by
 rw[w8 h,yM,jq h];by_cases e:(b.take k).any (λs=>xH s q)=true
 ·rw[Zp e,Zp ((BV _ _).1 e)]
 rw[Zn e,Zn (λz=>e ((BV _ _).2 z))]
def x0{a z}(h:z ∉ a):∀y∈a++[z],Jr (zX a) z a.length y=zX (a++[z]) y:=by
 intro y b;unfold Jr zX;by_cases e:y=z
 ·rw[Zp e,e,List.idxOf_append,Zn h];simp[List.idxOf_cons]
 rw[Zn e];rcases Bh.1 b with q|q
 ·rw[List.idxOf_append,Zp q]
 exact aB (Aw.1 q) e
def wV.d{w w':Wl}{b:Nat}{a:List LI}{z:LI}(h:wV w' b (jc a z) (Jr (zX a) z a.length))(c:z ∉ a):wV w' b (a++[z]) (zX (a++[z])):=by
 unfold jc at h;rw[Zn c]at h;exact h.e (x0 c)
def BW{z}:∀{a:List LI} {i:Nat},z∈a->uU z a i=((i+zX a z:Nat):Int)
 |[],_,h=>by cases h
 |y::r,i,h=>by
  rw[uU];by_cases e:y=z
  ·rw[Zp e,e];simp[zX]
  rw[Zn e];have b:z∈r:=by
   rcases Bx.1 h with q|q
   ·exact aB q.symm e
   exact q
  rw[BW b];unfold zX;have e':(y==z)=false:=by simp[e]
  rw[List.idxOf_cons,e'];simp only[cond_false];congr 1;omega
def Iw.at{X w}:∀{b:List Rl} {cs:List Value},Iw X w b cs->cs.length=b.length*4/\∀{k:Nat} {q:Rl},b[k]?=some q->∃ty u,Ev X w q.e (.iface ty u)/\∀j,j<4->cs[k*4+j]?=(Lv q (.iface ty u))[j]?
 |[],cs,h=>⟨by rw[show cs = [] from h];rfl,λa=>by simp at a⟩
 |y::r,_,⟨ty,u,d,rfl,h1,h2⟩=>by
  have f:=Iw.at h2;have g:(Lv y (.iface ty u)).length=4:=rfl;refine⟨by rw[wK,f.1,g,zQ];omega,λ{k q} a=>?_⟩;cases k with
  |zero =>
   obtain rfl:y=q:=(by simpa using a);exact⟨ty,u,h1,λj c=>by rw[Ge,zL,Cr oM]⟩
  |succ k =>
   obtain⟨m,n,i,l⟩:=f.2 (k:=k) (by simpa using a);exact⟨m,n,i,λj c=>by rw[Di oM,g,show(k+1)*4+j-4=k*4+j by omega];exact l j c⟩
def Fp.at:∀{l:List wH} {cs:List Value},Fp l cs->cs.length=l.length*4/\∀{k:Nat} {x:wH},l[k]?=some x->∃a n c,∀j,j<4->cs[k*4+j]?=(Lu x (Sl a n c))[j]?
 |[],cs,h=>⟨by rw[show cs = [] from h];rfl,λb=>by simp at b⟩
 |y::r,_,⟨a,n,c,d,rfl,h2⟩=>by
  have f:=Fp.at h2;have g:(Lu y (.slice a n c)).length=4:=rfl;refine⟨by rw[wK,f.1,g,zQ];omega,λ{k q} b=>?_⟩;cases k with
  |zero =>
   obtain rfl:y=q:=(by simpa using b);exact⟨a,n,c,λj e=>by rw[Ge,zL,Cr oM]⟩
  |succ k =>
   obtain⟨i,p,o,m⟩:=f.2 (k:=k) (by simpa using b);exact⟨i,p,o,λj e=>by rw[Di oM,g,show(k+1)*4+j-4=k*4+j by omega];exact m j e⟩
def BX{D:Np}{w w':Wl}{a:Oa}{n c m:Nat}{cs:List Value}(h:wC D w (Sl a n c) 4 n cs)(o:cs.length=n*4)(p:m<n):∃g,a=some (Ad g 0)/\D g/\∀j,j<4->w.cell? (Ad g (m*4+j))=cs[m*4+j]?:=by
 rcases h with⟨_,e,_⟩|⟨g,cap,e,d,f,i,b,k⟩
 ·omega
 injection e with e1 _ _;exact⟨g,e1,d,λj l=>b _ oM⟩
def Vq{w w':Wl}{g k:Nat}{v0 v1 v2 v3:Vl}(h:∀j,j<4->w.cell? (Ad g (k+j)) = [v0,v1,v2,v3][j]?)(e:w'.heap[g]?=w.heap[g]?):w'.cell? (Ad g k)=some v0/\w'.cell? (Ad g (k+1))=some v1/\w'.cell? (Ad g (k+2))=some v2/\w'.cell? (Ad g (k+3))=some v3:=by
 have f:∀o,w'.cell? (Ad g o)=w.cell? (Ad g o):=λo=>zI (a:=(Ad g o)) e
 rw[f,f,f,f];exact⟨h 0 oM,h 1 oM,h 2 oM,h 3 oM⟩
def BY{C w W W' b}(k:wA C w W)(g:W.grownBy W' (some b))(h:w.heap.size<=b):wA C w W' :=
 ⟨g.os.trans k.os,g.tape.trans k.g,g.output.trans k.f,wN k.h g.size,λx a c=>(g.block x (wX a k.h) (λe=>by injection e with e;omega)).trans (k.d x a c)⟩
def Vr(a:List Rl):Prop:=∀q∈a,wW q.f.nm/\q.f.nm.length<=1000000
def yY(c:Bool)(a:List Rl):List LI:=if c then yD a else ug a
def OZ(c:Bool)(a:List Rl)(m:Nat):(yY c (a.take m)).length<=m:=by
 unfold yY yD ug;split<;>exact wN (by rw[zN];exact Qf _ _) (by rw[Fy];omega)
def x1{b:List Rl}{q:Rl}{m:Nat}(h:b[m]?=some q)(c:Bool):yY c (b.take (m+1))=if q.a.isSome=c then yY c (b.take m)++[q.f.nm] else yY c (b.take m):=by
 unfold yY;rw[jq h,l1,OY];cases c<;>cases q.a.isSome<;>rfl
def PA(a:List Rl)(w:Wl)(v:Vl)(wr:Wl):Prop :=
 ∃k:Nat,k<=a.length/\v=Iv (k:Nat)/\yM [] a=yM (a.take k) (a.drop k)/\Kf w wr/\∀c:Bool,wV wr (w.heap.size+c.toNat) (yY c (a.take k)) (zX (yY c (a.take k)))
section
variable {K:RK} {z:RZ} {W:Wl} {qs:List Rl} {P:Ew}
def x2(s:K.DS z qs W)(b:Vr qs)(ok:∀W',yM [] qs=none->Kf W W'->(∀c:Bool,wV W' (W.heap.size+c.toNat) (yY c qs) (zX (yY c qs)))->P (Rt (.tuple #[.map (some W.heap.size),.map (some (W.heap.size+1))])) W')(bad:∀p W',yM [] qs=some p->Kf W W'->P (.panicked (Fq 6 (p:Nat))) W') :
  Cs 127 #[rp K.rb] W P:=by
 have OK:=ua ok;have BD:=ua bad;have HQ:=ua b;have an:qs.length<=1000000:=oH s.c;have am:=@run_makeMap prog;obtain⟨cs,J,U⟩:=s.y;obtain⟨ra,rc,ab⟩:=uq J;have c6:=(s.st.sc.e.x.1 6).trans (zD some ab);have ao:=s.st.sc.e.x.2.2;rw[ab]at J;have ac:Hid (∀m q,qs[m]?=some q->∃g ty u,ra=some (Ad g 0)/\g<W.heap.size/\∀j,j<4->W.cell? (Ad g (m*4+j))=(Lv q (.iface ty u))[j]?):=λm q b=>(by
  obtain⟨g,e,L,I⟩:=BX (w':=W) J U.at.1 (zT.1 b).1;obtain⟨ty,u,_,h3⟩:=U.at.2 b;exact⟨g,ty,u,e,(s.st.d g L).1,λj Y=>(I j Y).trans (h3 j Y)⟩)
 go_enter func127,ntmps127;go_wp2;go_loopw [16] (PA qs W) (λv _=>qs.length-(intOf v).toNat)
 ·refine⟨0,wP,rfl,rfl,wU.c wU,λc=>?_⟩;cases c
  ·exact(wV.i W _).a _
  have:=wV.i (W.alloc (.map #[] 0)) (zX []);rwa [show(W.alloc (.map #[] 0)).heap.size=W.heap.size+1 by simp]at this
 obtain⟨m,hm,rfl,hE,r,F⟩:=hrel;have B:=ua hE;have HK:=ua r;have O:=ua F;have aj:=(F false).lt;have ak:=(F true).lt;simp at aj ak;by_cases Z:m<qs.length
 ·obtain⟨q,b⟩:∃q,qs[m]?=some q:=⟨_,zG Z⟩;obtain⟨g,ty,u,rfl,L,I⟩:=ac m q b;obtain⟨y0,y1,y2,y3⟩:=Vq (w':=wr) I (r.d g L (λe=>e));have al:g<wr.heap.size:=oH r.h;have hlt':(m:Int)<(qs.length:Int):=oM;have n:=ua (HQ q (Be b));obtain⟨bv,H⟩:=nm q.a.isSome;have C:Hid (yM (qs.take m) (qs.drop m)=if q.f.nm∈yY bv (qs.take m) then some q.f.f else yM (qs.take (m+1)) (qs.drop (m+1))):=(by have:=w9 b;rw[H]at this;exact this);have ad:=ua (λc=>H▸x1 b c);obtain⟨sz,aa⟩:=nm (str q.f.nm.length (lf q.f.nm));have D:=ua aa;rw[H]at y2;rw[aa]at y0;have ai:=OZ bv qs m;generalize G:wr.alloc (Oc #[.string sz,Iv (q.f.f:Nat),.bool bv,.iface ty u] 237)=X;have Q:Hid (Kf W X):=r.c (G▸wU);have E:Hid (∀c:Bool,wV X (W.heap.size+c.toNat) (yY c (qs.take m)) (zX (yY c (qs.take m)))):=λc=>G▸(O c).a _
  obtain⟨q0,p0,l0⟩:=(G▸um wr #[.string sz,Iv (q.f.f:Nat),.bool bv,.iface ty u] 237:wJ X wr.heap.size _).x;have R:Hid (q.f.nm ∉ yY bv (qs.take m)->∀W',wV W' (W.heap.size+bv.toNat) (jc (yY bv (qs.take m)) q.f.nm) (Jr (zX (yY bv (qs.take m))) q.f.nm (yY bv (qs.take m)).length)->X.grownBy W' (some (W.heap.size+bv.toNat))->PA qs W (Iv ((m:Int)+1)) W'):=λk W' h1 S=>(by
   refine⟨m+1,Z,sM,by rw[B.o,C.o,Zn k],BY Q S oM,λc=>?_⟩;rw[ad.o c];by_cases e:bv=c
   ·subst e;rw[Zp rfl];exact wV.d (w:=X) h1 k
   rw[Zn e];exact(E c).on (S.block _ (E c).lt (λq=>by injection q with q;cases bv<;>cases c<;>simp at q e)))
  have o:=ua (E bv);obtain⟨l,ah⟩:=nm (yY bv (qs.take m));rw[ah]at C o R ai;by_cases k:q.f.nm∈l
  ·have A:=ua (Gi k);have t:=ua (BD q.f.f X (by rw[B.o,C.o,Zp k]) Q);cases bv;all_goals (
    go_wp2_with (at_lookup;refine Tb _ rfl _ _ rfl _ l _ q.f.nm rfl o (by rw[D.o];rfl) n.1 n.2 true A ?_);exact⟨rfl,t⟩)
  have A:=ua (Gv k);have ae:=ua (R k);have ag:l.length+1<=1000000:=oM;have N:=ua ag;cases bv;all_goals (
   go_wp2_with (first
    |(at_lookup;refine Tb _ rfl _ _ rfl _ l _ q.f.nm rfl o (by rw[D.o];rfl) n.1 n.2 false A ?_)
    |(at_len;refine Tc _ rfl _ rfl _ l _ rfl o ?_)
    |(at_mapUpdate;refine Xg _ rfl _ _ _ rfl _ l _ q.f.nm l.length rfl o (by rw[D.o];rfl) rfl n.1 n.2 N (Nat.le_of_succ_le N) ?_;intro W' T V;have af:=ua (ae W' T V);clear T V))
   go_roundw;all_goals first
    |exact af
    |(simp[intOf];omega))
 obtain rfl:m=qs.length:=oM;have t:=ua (OK wr (by rw[B.o,Ll,List.drop_length];rfl) HK (by have:=O;rw[Ll]at this;exact this));go_wp2;exact t
end
end
section
section
open Go.RowKit Go.Maps Go.Sort Go.Shelf
def Tryz.sorts68 m:AnyZ.SortsIn prog Tryz.gJ Fence.wide m :=
 ⟨λFi off cap d W a b c=>callsIn_wide.2 (AnyM.slices_Sort_string Tryz.gI Fi off cap d W a b c),
 λp cap W=>callsIn_wide.2 (AnyM.slices_Sort_string_none Tryz.gI p cap W)⟩
def Tryz.lM(a:Option Nat)W:CallsIn Fence.wide 5 prog 163 #[.map a] W λe w'=>e=Rt (.func (.func 200) #[] #[.pointer (Sm W.heap.size 0)])/\w'=W.alloc (Oc #[.map a] 183) :=
 AnyZ.keys_in Tryz.gG Fence.wide 5 trivial rfl a W
def Tryz.lN{H}(b f:Nat)(a:DataW H)(R:Vl->Option (DataW H×List MemPlace))(w:Wl)(d:w.ownsMap prog 9 R b f a)(n:Maps.size a<=maxLen)(m:Maps.size a*16<=140737488355328) :
  CallsIn Fence.wide 5 prog 162 #[.func (.func 200) #[] #[.pointer (Sm w.heap.size 0)]] (w.alloc (Oc #[.map (some b)] 183)) λe w'=>∃(v:Vl) (c:List (List UInt8)),e=Rt v/\c.Perm (strKeys a) /\
   w'.ownsRow (w.alloc (Oc #[.map (some b)] 183)).heap.size 9 1 v c.length ((c.mergeSort (λx y=>decide (x<=y))).map encStr)/\(v=nS↔c = [])/\Below (w.alloc (Oc #[.map (some b)] 183)).heap.size (w.alloc (Oc #[.map (some b)] 183)) w':=by
 have l:=d.lt;have p:SeqGives Fence.wide 2 prog 200 #[.pointer (Sm w.heap.size 0)] encStr (λc=>c.Perm (strKeys a)) (Maps.size a) (w.alloc (Oc #[.map (some b)] 183)) :=
  AnyZ.keys_gives (ρ:=Tryz.gH) { Tryz.gG with } Fence.wide _ trivial rfl oM w.heap.size b f a _ sM sM (by
   obtain⟨i,h,k,g,o,j⟩:=d;exact⟨i,h,(Hg _ _ b l).trans k,g,o,j⟩)
 exact AnyZ.sorted_in Tryz.lO Fence.wide 5 trivial trivial trivial trivial rfl oM (Tryz.sorts68 _) (enters_of func199 rR rfl) 200 #[.pointer (Sm w.heap.size 0)] trivial (enters_of func200 rR rfl) _ _ n m _ p
end
open M (OpD uh Gr)
def u8(z:LI):List UInt8:=(str z.length (lf z)).data.toList
def i8(x:List UInt8):List Int:=x.map (λb=>(b.toNat:Int))
def Vy z:xJ z=.string (u8 z):=rfl
def QC z:encStr (u8 z)=.string (str z.length (lf z)):=by
 unfold encStr u8;simp
def z1 z:u8 z=Cf z.length (lf z):=xC
def Sb{z}(h:wW z):i8 (u8 z)=z:=by
 rw[z1];unfold i8 Cf;rw[Md];refine List.ext_getElem? (λi=>?_);rw[Du];by_cases a:i<z.length
 ·rw[List.getElem?_range a,zG a];have e:lf z i=z[i]:=by unfold lf;rw[Cx,zG a];rfl
  have b:=h z[i] (Gb a);simp only[Option.map_some,Function.comp,e];congr 1;rw[UInt8.toNat_ofNat'];omega
 rw[Oj sO,Oj oM];rfl
def uty{y z}(a:wW y)(b:wW z)(h:u8 y=u8 z):y=z:=by rw[<-Sb a,h,Sb b]
def QD:∀{x y:List UInt8},Ei (i8 x) (i8 y)->x<y
 |_,[],h=>absurd h (Ub)
 |[],y::s,_=>List.Lex.nil
 |x::r,y::s,h=>by
  rcases h with h|⟨e,h⟩
  ·refine List.Lex.rel ?_;have h:(x.toNat:Int)<(y.toNat:Int):=h;exact UInt8.lt_iff_toNat_lt.2 oM
  have e:(x.toNat:Int)=(y.toNat:Int):=e;have e:x=y:=UInt8.toNat_inj.1 oM;subst e;exact List.Lex.cons (QD h)
def QE:∀{S:List (List UInt8)},S.Pairwise (λa b=>leB a b=true)->S.Nodup->Dp (S.map i8)
 |[],_,_=>trivial
 |x::r,h,hn=>by
  obtain⟨d,f⟩:=List.pairwise_cons.1 h;obtain⟨k,l⟩:=List.nodup_cons.1 hn;refine⟨λy j=>?_,QE f l⟩;obtain⟨z,c,rfl⟩:=Dc.1 j;rcases Uc (i8 x) (i8 z) with q|q|q
  ·exact q
  ·have i:x=z:=by
    have g:∀a b:List UInt8,i8 a=i8 b->a=b:=λa b e=>by
     unfold i8 at e;exact(List.map_inj_right (λp q e=>UInt8.toNat_inj.1 (by have e:(p.toNat:Int)=(q.toNat:Int):=e;omega))).1 e
    exact g _ _ q
   exact aB (by rw[i];exact c) k
  have:=d z c;simp only[leB,decide_eq_true_eq]at this;exact aB (QD q) this
def ulS{w}{b:Nat}{d:List LI}{n:Nat}{D:DataW Unit}(s:OwnM w b n D)(C:∀l,Maps.has D l=true↔∃z∈d,l=xJ z)(i:∀z∈d,wW z)(G:d.Nodup){h:List (List UInt8)}(k:h.Perm (strKeys D)) :
  ∃ls,ls.Perm d/\Dp ls/\h.mergeSort leB=ls.map u8:=by
 obtain⟨u,j,J,_⟩:=s.entries Ni;obtain⟨y,o,F⟩:=s.keysOf;obtain rfl:u=y:=by rw[j]at o;simpa using o
 have r:(d.map u8).Nodup:=by
  refine List.pairwise_map.2 (G.imp_of_mem (λ{p q} I N H e=>H (uty (i p I) (i q N) e)))
 have L:(d.map u8).Perm (strKeys D):=by
  rw[j];refine perm_strKeys J (λp k=>by obtain⟨v,O⟩:=F p k;obtain⟨x,_,f,_⟩:=Maps.keyOf_str underlying9 O;exact⟨x,f⟩) r (λx=>?_);rw[<-j,C];constructor
  ·intro f;obtain⟨z,g,rfl⟩:=Dc.1 f;exact⟨z,g,rfl⟩
  rintro⟨z,g,e⟩;injection e with e;exact Dc.2 ⟨z,g,e.symm⟩
 have Q:∀a b c:List UInt8,leB a b=true->leB b c=true->leB a c=true:=λa b c A B=>by simp only[leB,decide_eq_true_eq]at *;exact List.le_trans A B
 have P:∀a b:List UInt8,(leB a b||leB b a)=true:=λa b=>by simp only[leB,Ma,decide_eq_true_eq];exact List.le_total a b
 have m:=((List.mergeSort_perm h leB).trans k).trans L.symm;have t:(d.map u8).map i8=d:=by
  rw[Md]
  conv=>rhs;rw[<-List.map_id d]
  exact Oo (λz g=>Sb (i z g))
 have E:∀x∈h.mergeSort leB,u8 (i8 x)=x:=λx f=>by
  obtain⟨z,g,rfl⟩:=Dc.1 (m.mem_iff.1 f);rw[Sb (i z g)]
 refine⟨(h.mergeSort leB).map i8,?_,QE (List.pairwise_mergeSort Q P h) (m.nodup_iff.2 r),?_⟩
 ·have:=m.map i8;rw[t]at this;exact this
 rw[Md]
 conv=>lhs;rw[<-List.map_id (h.mergeSort leB)]
 exact Oo (λx f=>(E x f).symm)
def ulT{w b d}{g:List Int->Nat}(h:wV w b d g):Cs 161 #[.map (some b)] w λe w'=>e=Rt (.map (some w.heap.size))/\wV w' w.heap.size d g/\Kf w w':=by
 obtain⟨D,i,k⟩:=h.r;refine(AnyW.maps_Clone_owns Tryz.clone67 9 _ b _ D w i).mono ?_;rintro e w' ⟨rfl,m,_,l⟩;exact⟨rfl,⟨⟨D,m,k⟩,h.j,h.f,h.c,h.nd⟩,(Below.cV l)⟩
def ujf{w b s}{g:List Int->Nat}(h:wV w b s g) :
  Cs 162 #[.func (.func 200) #[] #[.pointer (Sm w.heap.size 0)]] (w.alloc (Oc #[.map (some b)] 183)) λe w'=>∃a c ls,e=Rt (Sl a ls.length c)/\ls.Perm s/\Dp ls/\Kf w w'/\∀k z,ls[k]?=some z->∃d,a=some (Ad d 0)/\wM w w' d/\w'.cell? (Ad d k)=some (.string (str z.length (lf z))):=by
 obtain⟨D,l,m,A,G⟩:=h.r;have J:=h.c;refine(callsIn_wide.1 (Tryz.lN b _ D _ w l (by rw[m];unfold maxLen;omega) (by rw[m];omega))).mono ?_;rintro e w' ⟨v,x,rfl,E,q,L,B⟩;obtain⟨ls,t,u,i⟩:=ulS l A h.j h.nd E;have i:=i;rw[i]at q;have p:ls.length=x.length:=by
  have:=zD List.length i;rw[List.length_mergeSort,zN]at this;omega
 have N:(w.alloc (Oc #[.map (some b)] 183)).heap.size=w.heap.size+1:=sM;have o:=wU.c (Below.cV B);obtain⟨_,⟨rfl,C⟩|⟨d,cap,y,rfl,H,n,_,_,_,F⟩⟩:=q
 ·refine⟨none,0,ls,by rw[p,C],t,u,o,λk z f=>?_⟩;have:=(zT.1 f).1;omega
 refine⟨some (Ad d 0),cap,ls,by rw[p],t,u,o,λk z f=>⟨d,rfl,⟨oM,(Cq.1 n).1⟩,?_⟩⟩;have I:=(zT.1 f).1;have e:y[k]?=some (.string (str z.length (lf z))):=by
  rw[<-Array.getElem?_toList,<-List.getElem?_take_of_lt (j:=x.length*1) oM,F,Du,Du,f];show some (encStr (u8 z))=_;rw[QC]
 simp only[World.cell?,n];exact e
end
section
open M (OpD uh Gr)
def Ry(th:List wH):Prop:=∀t∈th,wW t.nm/\t.nm.length<=1000000
def Jz(a:List LI)(th:List wH):List LI:=th.foldl (λa t=>jc a t.nm) a
def x3 a th t:Jz a (th++[t])=jc (Jz a th) t.nm:=by
 unfold Jz;rw[List.foldl_append];rfl
def x4 a z:(jc a z).length<=a.length+1:=by
 unfold jc;split
 ·omega
 rw[wK];exact wF
def BZ:∀(th:List wH) (a:List LI),(Jz a th).length<=a.length+th.length
 |[],a=>wF
 |t::r,a=>by
  have b:=BZ r (jc a t.nm);have c:=x4 a t.nm;show(Jz (jc a t.nm) r).length<=_;rw[zQ];omega
def PB:∀{th:List wH} {a:List LI} {z:LI},z∈Jz a th↔z∈a\/∃t∈th,t.nm=z
 |[],a,z=>⟨λh=>.inl h,λh=>h.elim id (λ⟨t,h,_⟩=>by cases h)⟩
 |t::r,a,z=>by
  show z∈Jz (jc a t.nm) r↔_;rw[PB,Az];constructor
  ·rintro ((h|h)|⟨b,h,e⟩)
   ·exact .inl h
   ·exact .inr ⟨t,Mc ..,h.symm⟩
   exact .inr ⟨b,On _ h,e⟩
  rintro (h|⟨b,h,e⟩)
  ·exact .inl (.inl h)
  rcases Bx.1 h with q|q
  ·exact .inl (.inr (by rw[<-e,q]))
  exact .inr ⟨b,q,e⟩
def qx:∀{ls:List LI} {i:Nat} {z:LI},ls.Nodup->ls[i]?=some z->zX ls z=i
 |[],i,z,_,h=>by simp at h
 |x::r,0,z,_,h=>by
  simp at h;subst h;simp[zX,List.idxOf_cons]
 |x::r,i+1,z,hn,h=>by
  simp at h;obtain⟨b,c⟩:=List.nodup_cons.1 hn;have a:(x==z)=false:=by
   simp;intro e;exact b (by rw[e];exact Be h)
  have:=qx c h;unfold zX at this ⊢;rw[List.idxOf_cons,a,cond_false,this]
def x5{th:List wH}{k:Nat}{t:wH}(h:th[k]?=some t):th.take (k+1)=th.take k++[t]:=by
 rw[Hu,h];rfl
def PC(w:Wl)(v:Vl)(th:List wH):Prop:=∃a b,v=Sl a th.length b/\∀k t,th[k]?=some t->∃g sa sn sc,a=some (Ad g 0)/\g<w.heap.size/\∀j,j<4->w.cell? (Ad g (k*4+j))=(Lu t (Sl sa sn sc))[j]?
def Ci.a{Q w v th}(h:Ci Q w v th)(m:∀b,Q b->b<w.heap.size):PC w v th:=by
 obtain⟨cs,c,d⟩:=h;obtain⟨p,q,rfl⟩:=uq c;refine⟨p,q,rfl,λk t i=>?_⟩;obtain⟨g,e,o,n⟩:=BX (w':=w) c d.at.1 (zT.1 i).1;obtain⟨sa,sn,sc,l⟩:=d.at.2 i;exact⟨g,sa,sn,sc,e,m g o,λj f=>(n j f).trans (l j f)⟩
def x6{w W W' b}(a:wA (λx=>x=b) w W)(c:W.grownBy W' (some b)):wA (λx=>x=b) w W' :=
 ⟨c.os.trans a.os,c.tape.trans a.g,c.output.trans a.f,wN a.h c.size,λx i e=>(c.block x (wX i a.h) (λq=>e (Ko q))).trans (a.d x i e)⟩
def PD(a:List LI)(th:List wH)(w:Wl)(v:Vl)(wr:Wl):Prop :=
 ∃k:Nat,k<=th.length/\v=Iv (k:Nat)/\(∃g,wV wr w.heap.size (Jz a (th.take k)) g)/\Kf w wr
def PEq(b:Nat)(ls:List LI)(w w0:Wl)(v:Vl)(wr:Wl):Prop :=
 ∃k:Nat,k<=ls.length/\v=Iv (k:Nat)/\(∃g,wV wr b ls g/\∀i z,i<k->ls[i]?=some z->g z=i)/\Kf w wr/\wA (λx=>x=b) w0 wr
section
variable {K:RK} {z:RZ} {W:Wl} {qs:List Rl} {P:Ew} {rb b2:Nat} {v8:Vl} {ks:List LI} {g0:List Int->Nat} {th:List wH}
def x7(hM:wV W b2 ks g0)(c8:W.cell? (Ad rb 8)=some v8)(L:PC W v8 th)(C:Ry th)(hl:ks.length+th.length+1<=1000000)
  (a0:∀b ls W',W.heap.size<=b->wV W' b ls (zX ls)->Dp ls->(∀z,z∈ls↔z∈ks\/∃t∈th,t.nm=z)->Kf W W'->P (Rt (.map (some b))) W'):Cs 128 #[rp rb,.map (some b2)] W P:=by
 obtain⟨ta,tc,rfl,L⟩:=L;have HM:=ua hM;have HT:=ua L;have HQ:=ua C;have NX:=ua a0;have a4:th.length<=1000000:=oM;have Y:=ua hl;have ay:=ud c8;go_enter func128,ntmps128;go_wp2_with fail;refine(ulT HM).mono ?_;rintro e W1 ⟨rfl,ao,ab⟩;have aj:=ua ao;have ah:=ua ab;have d8:=(ab.p (p:=(Ad rb 8)) ay (λz=>z)).trans c8;go_wp2;go_loopw [17] (PD ks th W) (λv _=>th.length-(intOf v).toNat)
 ·exact⟨0,wP,rfl,⟨g0,aj⟩,ah⟩
 obtain⟨m,hm,rfl,⟨A,ap⟩,J⟩:=hrel;have S:=ua J;have Z:=ua ap;by_cases ae:m<th.length
 ·obtain⟨q,C⟩:∃q,th[m]?=some q:=⟨_,zG ae⟩;obtain⟨g,sa,sn,sc,rfl,hg,hc⟩:=HT m q C;obtain⟨y0,y1,y2,y3⟩:=Vq (w':=wr) hc (J.d g hg (λe=>e));have a2:g<wr.heap.size:=oH J.h;have hlt':(m:Int)<(th.length:Int):=oM;have w:=ua (HQ q (Be C));obtain⟨sz,af⟩:=nm (str q.nm.length (lf q.nm));obtain⟨kd,ax⟩:=nm (kk q.e);have al:=ua af;rw[af]at y2;rw[ax]at y0;have F:Hid ((Jz ks (th.take m)).length+1<=1000000):=(by
   have k:=BZ (th.take m) ks;have s:=Y;rw[Fy]at k;show _<=_;omega)
  generalize N:wr.alloc (Oc #[Bv kd,Iv (q.f:Nat),.string sz,Sl sa sn sc] 177)=X;obtain⟨q0,p0,l0⟩:=(N▸um wr #[Bv kd,Iv (q.f:Nat),.string sz,Sl sa sn sc] 177:wJ X wr.heap.size _).x;have MX:=ua (N▸Z.a _:wV X W.heap.size (Jz ks (th.take m)) A);have H:Hid (∀W',wV W' W.heap.size (jc (Jz ks (th.take m)) q.nm) (Jr A q.nm 0)->X.grownBy W' (some W.heap.size)->PD ks th W (Iv ((m:Int)+1)) W'):=λW' k s =>
   ⟨m+1,ae,sM,⟨Jr A q.nm 0,by rw[x5 C,x3];exact k⟩,BY (S.c (N▸wU)) s wF⟩
  go_wp2_with (at_mapUpdate;refine Xg _ rfl _ _ _ rfl _ (Jz ks (th.take m)) A q.nm 0 rfl MX (by rw[al.o];rfl) rfl w.1 w.2 F oM ?_;intro W' B l;have G:=ua (H W' B l);clear B l);go_roundw;all_goals first
   |exact G
   |(simp[intOf];omega)
 obtain rfl:m=th.length:=oM;have o:=Z;rw[Ll]at o;have o:=ua o;obtain⟨V,hV⟩:∃x,x=wr:=⟨_,rfl⟩;subst hV;go_wp2_with fail;refine(callsIn_wide.1 (Tryz.lM (some W.heap.size) V)).mono ?_;rintro e W3 ⟨rfl,az⟩;obtain rfl:=az;go_wp2_with fail;refine(ujf o).mono ?_;rintro e W4 ⟨sa,sc,ls,rfl,Q,hA,ac,au⟩;have HP:=ua Q;have HA:=ua hA;have ai:=ua (S.c ac);have HC:=ua au;have aa:=ua ((o.on (ac.d _ o.lt (λz=>z))).n Q.symm);have a5:=o.lt;have a3:=aa.c;have F:Hid (ls.length+1<=1000000):=(by
  have k:=Q.length_eq;have s:=BZ th ks;have h3:=Y;show _<=_;omega)
 go_wp2;go_loopw [29] (PEq W.heap.size ls W W4) (λv _=>ls.length-(intOf v).toNat)
 ·exact⟨0,wP,rfl,⟨A,aa,λi z h=>aB h oM⟩,ai,zM⟩
 obtain⟨n,hn,rfl,⟨I,aq,aw⟩,am,an⟩:=hrel;have r:=ua aq;have R:=ua aw;have T:=ua am;have U:=ua an;by_cases ad:n<ls.length
 ·obtain⟨z,u⟩:∃z,ls[n]?=some z:=⟨_,zG ad⟩;obtain⟨g',rfl,l,av⟩:=HC n z u;have y0:=(U.p (p:=(Ad g' n)) l.2 (by show ¬g'=W.heap.size;have:=l.1;omega)).trans av;have hln':(n:Int)<(ls.length:Int):=oM;have O:=Be u;have w:Hid (wW z/\z.length<=1000000):=⟨r.j z O,r.f z O⟩;have ak:Hid (n<=1000000):=(by show _<=_;omega);have H:Hid (∀W',wV W' W.heap.size (jc ls z) (Jr I z n)->wr.grownBy W' (some W.heap.size)->PEq W.heap.size ls W W4 (Iv ((n:Int)+1)) W'):=λW' k s=>(by
   unfold jc at k;rw[Zp O]at k;refine⟨n+1,ad,sM,⟨Jr I z n,k,λi y D E=>?_⟩,BY T s wF,x6 U s⟩;unfold Jr;by_cases e:y=z
   ·rw[Zp e,<-qx r.o.nd u,<-qx r.o.nd E,e]
   rw[Zn e];refine R i y ?_ E;have:i≠n:=λq=>e (by rw[q,u]at E;exact(Ko E).symm)
   omega)
  go_wp2_with (at_mapUpdate;refine Xg _ rfl _ _ _ rfl _ ls I z n rfl r rfl rfl w.1 w.2 F ak ?_;intro W' B l;have G:=ua (H W' B l);clear B l);go_roundw;all_goals first
   |exact G
   |(simp[intOf];omega)
 have a1:¬((n:Int)<(ls.length:Int)):=oM;have ag:=ua (NX W.heap.size ls wr wF (r.e (λz u=>by
  obtain⟨i,D⟩:=Nb u;rw[qx r.o.nd D];exact R i z (oH ((zT.1 D).1)) D)) HA (λz=>(HP.mem_iff).trans PB) T)
 go_wp2;exact ag
def xS(a:List LI):List wH->Option Nat
 |[]=>none
 |t::r=>if t.nm∈a then xS a r else some t.f
def x8{a:List LI}{l:List wH}{k:Nat}{t:wH}(h:l[k]?=some t):xS a (l.drop k)=if t.nm∈a then xS a (l.drop (k+1)) else some t.f:=by
 obtain⟨b,e⟩:=zT.1 h;rw[Qj b,e,xS]
def PF(n:Nat)(a:List Rl)(p:Nat):Prop :=
 yM [] a=some p\/(yM [] a=none/\(xS (ug a) (yG a)=some p\/(xS (ug a) (yG a)=none/\ug a = []/\p=n)))
def PH(a:List LI)(rf:List wH)(W1:Wl)(v:Vl)(wr:Wl):Prop :=
 ∃k:Nat,k<=rf.length/\v=Iv (k:Nat)/\xS a rf=xS a (rf.drop k)/\Kf W1 wr
def RK.DS.kp{W':Wl}(s:K.DS z qs W)(k:Kf W W'):K.DS z qs W' :=
 ⟨s.st.kp k,let ⟨cs,h1,h2⟩:=s.y;⟨cs,h1.on (λb q=>k.d b (s.st.d b q).1 (λe=>e)),h2.mv (Ay.d (k.l (λ_ q=>q.elim)))⟩,s.rf,s.th,s.c⟩
structure RK.Fn(K:RK)(qs:List Rl)(W:Wl)(P:Ew):Prop where
 ok:∀b1 b2 ls W',yM [] qs=none->xS (ug qs) (yG qs)=none->ug qs≠[]->wV W' b1 (ug qs) (zX (ug qs))->wV W' b2 ls (zX ls)->Dp ls->(∀z,z∈ls↔z∈yD qs\/∃t∈ja qs,t.nm=z)->Kf W W'->P (Rt (.agg #[.map (some b1),.map (some b2)])) W'
 bad:∀p W',PF K.t.n qs p->Kf W W'->P (.panicked (Fq 6 (p:Nat))) W'
def x9(s:K.DS z qs W)(A:Vr qs)(an:Ry (yG qs))(ao:Ry (ja qs))(L:qs.length+(ja qs).length+1<=1000000)(aq:K.Fn qs W P):Cs 100 #[rp K.rb] W P:=by
 have C:=ua aq;have ah:=ua an;have ai:=ua ao;have ay:=s.st.sc.e.x.2.2;have a0:=s.st.tn;have az:(yG qs).length<=1000000:=by have:=s.st.u;rw[s.rf]at this;omega
 generalize aa:W.alloc (Oc #[.map none,.map none] 185)=l;have k0:Kf W l:=aa▸wU;have O:Hid (wJ l W.heap.size #[.map none,.map none]):=aa▸um W _ _;have U:=ua k0;have S0:=ua (s.kp k0);have h0:=O.x.2.2;go_enter func100,ntmps100;go_wp2_with fail;refine x2 S0 A (λW1 J r mp=>?_) (λp W1 J r=>?_)
 rotate_left
 ·have k:=ua (C.bad p W1 (.inl J) (U.c r));go_wp2;exact⟨rfl,k⟩
 have G:=ua J;have MP:=ua mp;have w:=ua (S0.kp r);have V:=ua (U.c r);obtain⟨ra,rc,ae,ad⟩:=w.st.j.a (λb q=>(w.st.a b q).1);rw[w.o.rf]at ae ad;have c7:=(w.st.sc.e.x.1 7).trans (zD some ae);have aj:=ua ad;have B1:=ua (O.on r.u);have au:=r.h;go_wp2;go_loopw [19] (PH (ug qs) (yG qs) W1) (λv _=>(yG qs).length-(intOf v).toNat)
 ·exact⟨0,wP,rfl,rfl,zM⟩
 obtain⟨m,hm,rfl,hE,i⟩:=hrel;have Q:=ua hE;have HK:=ua i;have o:=ua (λc=>(MP c).on (i.d _ (MP c).lt (λe=>e)));by_cases ab:m<(yG qs).length
 ·obtain⟨q,A⟩:∃q,(yG qs)[m]?=some q:=⟨_,zG ab⟩;obtain⟨g,sa,sn,sc,rfl,hg,hc⟩:=aj m q A;obtain⟨y0,y1,y2,y3⟩:=Vq (w':=wr) hc (i.d g hg (λe=>e));have aw:g<wr.heap.size:=oH i.h;have hlt':(m:Int)<((yG qs).length:Int):=oM;have B:=ua (ah q (Be A));have S:=ua (Q.trans (x8 A));obtain⟨sz,L⟩:=nm (str q.nm.length (lf q.nm));obtain⟨kd,am⟩:=nm (kk q.e);have T:=ua L;rw[L]at y2;rw[am]at y0;generalize I:wr.alloc (Oc #[Bv kd,Iv (q.f:Nat),.string sz,Sl sa sn sc] 177)=X;obtain⟨q0,p0,l0⟩:=(I▸um wr #[Bv kd,Iv (q.f:Nat),.string sz,Sl sa sn sc] 177:wJ X wr.heap.size _).x;have MX:=ua (I▸(o false).a _:wV X l.heap.size (ug qs) (zX (ug qs)));have Z:=ua (HK.c (I▸wU:Kf wr X));by_cases D:q.nm∈ug qs
  ·have F:=ua (Gi D);have ak:Hid (PH (ug qs) (yG qs) W1 (Iv ((m:Int)+1)) X):=⟨m+1,ab,sM,S.trans (Zp D),Z⟩;go_wp2_with (at_lookup;refine Tb _ rfl _ _ rfl _ (ug qs) _ q.nm rfl MX (by rw[T.o];rfl) B.1 B.2 true F ?_);go_roundw;all_goals first
    |exact ak
    |(simp[intOf];omega)
  have F:=ua (Gv D);have k:=ua (C.bad q.f X (.inr ⟨G,.inl (S.trans (Zn D))⟩) (V.c Z));go_wp2_with (at_lookup;refine Tb _ rfl _ _ rfl _ (ug qs) _ q.nm rfl MX (by rw[T.o];rfl) B.1 B.2 false F ?_);exact⟨rfl,k⟩
 obtain rfl:m=(yG qs).length:=oM;have R:Hid (xS (ug qs) (yG qs)=none):=Q.o.trans (by rw[List.drop_length];rfl);have y:=ua (w.kp i);have Y:=ua (V.c i);obtain⟨q1,p1,l1⟩:=y.st.sc.e.x;have B2:=ua (B1.on i.u);have a1:=i.h;obtain⟨nl,E⟩:=nm (ug qs).length;by_cases ac:nl=0
 ·subst ac;have k:=ua (C.bad K.t.n wr (.inr ⟨G,.inr ⟨R,Hh E,rfl⟩⟩) Y);have H:=ua E;go_upto_region 10 with (at_len;refine Tc _ rfl _ rfl _ (ug qs) _ rfl (o false) ?_;rw[H.o]);go_wp2;exact⟨rfl,k⟩
 have ag:Hid (ug qs≠[]):=λq=>ac (by rw[<-E,q];rfl)
 have hnil':((nl:Int)==0)=false:=sO;have H:=ua E;have ax:(yD qs).length<=qs.length:=by have:=OZ true qs qs.length;rw[Ll]at this;exact this
 have af:=ua (show(yD qs).length+(ja qs).length+1<=1000000 by omega);go_wp2_with (at_len;refine Tc _ rfl _ rfl _ (ug qs) _ rfl (o false) ?_;rw[H.o]);refine x7 (o true) (y.st.sc.e.x.1 8) (by have:=y.st.m.a (λb q=>(y.st.b b q).1);rw[y.o.th]at this;exact this) ai af (λb ls W3 hb m3 al ap N=>?_);have av:=m3.lt;obtain⟨q2,p2,l2⟩:=(B2.on N.u).x;have k:=ua (C.ok l.heap.size b ls ((W3.setCell (Ad W.heap.size 0) (.map (some l.heap.size))).setCell (Ad W.heap.size 1) (.map (some b))) G R ag
  (((o false).on (N.d _ (o false).lt (λe=>e))).on ((zJ _ (by show l.heap.size≠W.heap.size;omega)).trans (zJ _ (by show l.heap.size≠W.heap.size;omega))))
  (m3.on ((zJ _ (by show b≠W.heap.size;omega)).trans (zJ _ (by show b≠W.heap.size;omega)))) al ap (xB (xB (Y.c N) wF) wF))
 go_wp2;exact wL (by simp[results,f100,go_sem, *]) rfl k
end
end
end Go.Proofs.YtoihadcablknpaaGreatDoor
