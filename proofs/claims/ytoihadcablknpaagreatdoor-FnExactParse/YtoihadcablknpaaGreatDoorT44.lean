import Derived.Test.YtoihadcablknpaaGreatDoorT24
set_option linter.unusedVariables false
set_option linter.unusedSimpArgs false
set_option linter.defProp false
set_option maxHeartbeats 40000000
set_option maxRecDepth 100000
namespace Go.Proofs.YtoihadcablknpaaGreatDoor
open Go.RowKit
open Go.Proofs.Tryz
open M (OpD uh Gr)
def kI(b:Wl)(a:Nat)(rb:Nat->Nat)(n:Nat)(R:Nat->Nat->Bool)(c:Vl)(wr:Wl):Prop :=
  ∃(k:Nat) (T:Nat->Nat->Bool),k<=n/\c=Iv (k:Int)/\M.Warsh R n k T/\Tab wr a a rb n n T/\Below (a+1) b wr
def iI(c:Wl)(a:Nat)(rb:Nat->Nat)(n k:Nat)(T:Nat->Nat->Bool)(d:Vl)(wr:Wl):Prop :=
  ∃(i:Nat) (b:Nat->Nat->Bool),i<=n/\d=Iv (i:Int)/\Ig T b n k i/\Tab wr a a rb n n b/\Below (a+1) c wr
def jI(c:Wl)(a:Nat)(rb:Nat->Nat)(n k i:Nat)(T:Nat->Nat->Bool)(d:Vl)(wr:Wl):Prop :=
  ∃(j:Nat) (b:Nat->Nat->Bool),j<=n/\d=Iv (j:Int)/\Col T b i k j/\Tab wr a a rb n n b/\Below (a+1) c wr
def seI(W6:Wl)(n:Nat)(P:Np)(a:Vl)(wr:Wl):Prop :=
  ∃k:Nat,k<=n/\a=Iv (k:Int)/\(∀q,q<k->¬P q)/\wr=W6
def lkC(W6:Wl)(n:Nat)(P:Np)(a:Vl)(wr:Wl):Prop :=
  ∃k:Nat,k<=n/\a=Iv (k:Int)/\(∀q,q<k->¬P q)/\Bw W6 wr
theorem ujs Q ra la rc lc g w(hG:zC Q w ra la g)(hs:yg g) :
    Cs 13 #[.agg #[Sl ra g.nr rc,Sl la g.nb lc]] w (EO g w):=by
  have HG:=ua hG;have HS:=ua hs;clear hG hs;go_enter func13,ntmps13;go_wp2_with fail;refine (SR Q ra la rc lc g _ (HG.d.q (wG w)) HS).mono ?_;rintro e W1 ⟨⟨r,rfl,R⟩,B⟩;have O:=ue (a:=(Ad w.heap.size 0)) (v:=Sl ra g.nr rc) (cN w.heap.size rfl rfl) B;have U:=ue (a:=(Ad w.heap.size 1)) (v:=Sl la g.nb lc) (cN w.heap.size rfl rfl) B;have B1:=ua (uf (wG w) B);clear B;cases r with
  |false =>
    have u:Hid (¬M.Valid g):=fun q=>aB (R.2 q) dC
    clear R;go_wp2;refine wL (by simp[results,f13,go_sem];rfl) rfl ?_
    exact⟨⟨4,0,.bad u,rfl⟩,B1⟩
  |true =>
    have u:=ua (R.1 rfl);clear R;have h1:=u.r2;have h2:=u.l2;have h0:=u.r1;obtain⟨n,hn⟩:∃n,g.nr+g.nb=n:=⟨_,rfl⟩;have t:=ua hn;have b0:n<=200:=oM;have bz:0<n:=oM;clear hn;go_wp2_with fail;refine (SJ ra la g.nr rc g.nb lc _ h1 h2).mono ?_;rintro e W2 ⟨rfl,B⟩;rw[t.o];replace O:=ue O B;replace U:=ue U B;have B2:=ua (uf B1 B);clear B;go_wp2_with fail;refine (ud4 Q ra la rc lc g _ (HG.q B2) u (DJ u.a)).mono ?_;rintro e m ⟨⟨mb,bo,rfl,ai⟩,B⟩;rw[t.o]at ai;rw[t.o];replace O:=ue O B;replace U:=ue U B;have B3:=ua (uf B2 B);have HM:Hid (zS m mb 0 n (S0 g).h):=fun i o=>by
      rw[zL,ai.cell o,EM u.o (oH t.o)];unfold Xb;rw[t.o]
    have bt:=yj ai;have s3:=ud O;clear B ai bo;have bp:=run_make_row' (P:=prog) 83 81 nS 24 underlying83 utJ rfl .i64 .i64 n oM oM;have bx:=run_make_row' (P:=prog) 81 4 Bf 1 underlying81 Vz rfl .i64 .i64 n oM oM;go_wp2;have G0:(m.alloc (Oc (madeCells #[nS] n) 81)).cell? (Ad w.heap.size 0)=some (Sl ra g.nr rc):=uv _ O;have G1:(m.alloc (Oc (madeCells #[nS] n) 81)).cell? (Ad w.heap.size 1)=some (Sl la g.nb lc):=uv _ U;have R4:Hid ((m.alloc (Oc (madeCells #[nS] n) 81)).rowIs m.heap.size 81 n (Mx (fun _=>0) n 0)):=(Ja m _ n 81).congr (fun i _=>by simp[Mx])
    have af:Hid (Bw m (m.alloc (Oc (madeCells #[nS] n) 81))):=wG m;generalize m.alloc (Oc (madeCells #[nS] n) 81)=W4 at *;have B4:Hid (Bw w W4):=uf B3.o af.o;obtain⟨l,aj⟩:∃x,m.heap.size=x:=⟨_,rfl⟩;have au:Hid (m.heap.size=l):=aj;have az:Hid (zC Q m ra la g):=HG.o.q B3.o;rw[aj]at R4 bt s3;rw[aj];clear aj O U bp;go_loopw [7] (fun A wr=>stI W4 l n (RU (UB g)) A wr) (fun A _=>n-(intOf A).toNat)
    case atStart=>exact⟨0,fun _=>0,wP,rfl,⟨R4.o,fun i o=>aB o Ct,fun i j o=>aB o Ct,fun i o=>aB o Ct⟩,wI _⟩
    case round =>
      obtain⟨k,rb,hk,rfl,aw,C⟩:=hrel;have F:Hid (Iy wr l rb k n (RU (UB g))):=aw;have ab:Hid (Below l W4 wr):=C;have j0:wr.cell? (Ad w.heap.size 0)=some (Sl ra g.nr rc):=(C.cell (p:=(Ad w.heap.size 0)) (show w.heap.size<l by omega)).trans G0
      have j1:wr.cell? (Ad w.heap.size 1)=some (Sl la g.nb lc):=(C.cell (p:=(Ad w.heap.size 1)) (show w.heap.size<l by omega)).trans G1
      have bu:=yj aw.h;clear aw C;by_cases z:k<n
      · have hc:=F.o.h.cell z
        have hf:=F.o.h.frozen k;go_wp2;have x0:((wr.setCell (Ad l k) (Sl (Sm wr.heap.size 0) n n)).alloc (Oc (madeCells #[Bf] n) 4)).cell? (Ad w.heap.size 0)=some (Sl ra g.nr rc):=uv _ ((yH (show l≠w.heap.size by omega)).trans j0)
        have x1:((wr.setCell (Ad l k) (Sl (Sm wr.heap.size 0) n n)).alloc (Oc (madeCells #[Bf] n) 4)).cell? (Ad w.heap.size 1)=some (Sl la g.nb lc):=uv _ ((yH (show l≠w.heap.size by omega)).trans j1)
        have xs:((wr.setCell (Ad l k) (Sl (Sm wr.heap.size 0) n n)).alloc (Oc (madeCells #[Bf] n) 4)).cell? (Ad l k)=some (Sl (Sm wr.heap.size 0) n n):=uv _ (uu hc);have X1:Hid (((wr.setCell (Ad l k) (Sl (Sm wr.heap.size 0) n n)).alloc (Oc (madeCells #[Bf] n) 4)).rowIs l 81 n (Mx (fun i=>if i=k then wr.heap.size else rb i) n (k+1))):=(ujx F.o.h).alloc _
        have X2:Hid (∀i,i<k->((wr.setCell (Ad l k) (Sl (Sm wr.heap.size 0) n n)).alloc (Oc (madeCells #[Bf] n) 4)).rowIs (rb i) 4 n (fun j=>.bool (RU (UB g) i j))):=fun i o=>((F.o.y i o).setOther (a:=(Ad l k)) (show rb i≠l by have:=F.o.a i o;omega) _).alloc _
        have X3:Hid (((wr.setCell (Ad l k) (Sl (Sm wr.heap.size 0) n n)).alloc (Oc (madeCells #[Bf] n) 4)).rowIs wr.heap.size 4 n (fun j=>.bool ((fun _=>false) j))):=by
          have:=Ja (wr.setCell (Ad l k) (Sl (Sm wr.heap.size 0) n n)) Bf n 4;rw[uj]at this;exact this
        have BX:Hid (Below l W4 ((wr.setCell (Ad l k) (Sl (Sm wr.heap.size 0) n n)).alloc (Oc (madeCells #[Bf] n) 4))):=(ab.o.setCell (p:=(Ad l k)) wF _).alloc (by rw[uj];omega) _
        have XO:Hid (∀i,i<k->rb i<wr.heap.size):=fun i o=>yj (F.o.y i o)
        obtain⟨L,av⟩:∃x,wr.heap.size=x:=⟨_,rfl⟩;generalize (wr.setCell (Ad l k) (Sl (Sm wr.heap.size 0) n n)).alloc (Oc (madeCells #[Bf] n) 4)=X at *;rw[av]at X1 X3 XO xs bu;rw[av];clear av hc hf j0 j1;have HO:Hid (m.heap.size<=L):=by show _<=_;have:=au.o;omega
        have al:Hid (Bw m X):=af.o.trans (BX.o.mono (oH au.o));have lX:L<X.heap.size:=yj X3.o;go_region_with (first|(go_at_call 37;refine (SN Q m ra la rc lc g _ az.o al.o.drew h1 h2 k (oH t.o)).mono ?_;rintro e W6 ⟨⟨ba,bc,rfl,hO,ad⟩,a7⟩;have E:Bw X W6:=(wI X).drew.trans a7;have i0:=ue x0 E;have i1:=ue x1 E;have is:=ue xs E;have B6:Hid (Bw X W6):=E;have bj:Hid (wT Q m ba (nd g k).bl (nd g k).e):=hO;have am:Hid ((nd g k).bl<=bc):=ad;clear E a7 hO ad)|(go_at_call 36;refine (ueu Q m ra la ba g.nr rc g.nb lc (nd g k).bl bc n (nd g k).e mb 0 n L n (S0 g) (fun _=>false) _ t.o h1 h2 (DJ u.o.a k (oH t.o)) am.o bj.o (vM u.o (oH t.o)) HM.o HO.o (al.o.trans (B6.o.mono al.o.size)) (yy X3.o B6.o)).mono ?_;rintro e W7 ⟨⟨v,rfl⟩,bf,bd⟩;have bm:Hid (W7.rowIs L 4 n (fun j=>.bool (false||(M.top (M.stk (uC g.nr (S0 g)) (nd g k).e (nd g k).bl)).f.h j))):=bf;have ao:Hid (wA (fun x=>x=L) X W7):=(vw B6.o).c bd;clear bf bd))
        all_goals go_wp2
        all_goals go_roundw
        all_goals first
          | (refine⟨k+1,fun i=>if i=k then L else rb i,oM,by go_num,⟨X1.o.of_block (ao.o.d _ oM (show ¬(l=L) by omega)),fun i o=>?_,fun i j o hj q=>?_,fun i o=>?_⟩,BX.o.trans (ao.o.below oM (fun x hx=>oM))⟩
             · by_cases e:i=k
               · subst e
                 simp only[if_true];exact qE bm.o (fun j hj=>by unfold RU UB;rw[Zp (oH t.o)];simp only[Bool.false_or];rfl)
               · simp only[Zn e]
                 have:=XO.o i oM;exact (X2.o i oM).of_block (ao.o.d _ oM (show ¬(rb i=L) by omega))
             · by_cases e:i=k
               · by_cases e':j=k
                 · omega
                 · simp only[Zp e,Zn e']at q
                   have:=XO.o j oM;omega
               · by_cases e':j=k
                 · simp only[Zn e,Zp e']at q
                   have:=XO.o i oM;omega
                 · simp only[Zn e,Zn e']at q
                   exact F.o.inj i j oM oM q
             · by_cases e:i=k
               · simp only[Zp e];omega
               · simp only[Zn e];exact F.o.a i oM)
          | (simp[intOf];omega)
      · obtain rfl:k=n:=oM
        have HT:Hid (Tab wr l l rb k k (RU (UB g))):=F.o.b;clear F R4;obtain⟨S,eW⟩:∃V,wr=V:=⟨_,rfl⟩;subst wr;go_wp2;go_loopw [8] (fun kv wr=>kI S l rb k (RU (UB g)) kv wr) (fun kv _=>k-(intOf kv).toNat)
        case atStart=>exact⟨0,_,wP,rfl,M.Warsh.d,HT.o,wI _⟩
        case round =>
          obtain⟨q,T,hq,rfl,hW,hT,C⟩:=hrel;have HW:Hid (M.Warsh (RU (UB g)) k q T):=hW;have ah:Hid (Tab wr l l rb k k T):=hT;have aa:Hid (Below (l+1) S wr):=C;clear hW hT C;by_cases z:q<k
          · go_wp2
            go_loopw [9] (fun A wr=>iI S l rb k q T A wr) (fun A _=>k-(intOf A).toNat)
            case atStart=>exact⟨0,T,wP,rfl,Ig.f T k q,ah.o,aa.o⟩
            case round =>
              obtain⟨i,D,o,rfl,hR,a4,a5⟩:=hrel;have HR:Hid (Ig T D k q i):=hR;have a2:Hid (Tab wr l l rb k k D):=a4;have ay:Hid (Below (l+1) S wr):=a5;clear hR a4 a5;by_cases Y:i<k
              · go_wp2
                go_loopw [10] (fun jv wr=>jI S l rb k q i D jv wr) (fun jv _=>k-(intOf jv).toNat)
                case atStart=>exact⟨0,D,wP,rfl,Col.f D i q,a2.o,ay.o⟩
                case round =>
                  obtain⟨j,G,hj,rfl,hC,ac,a6⟩:=hrel;have HC:Hid (Col D G i q j):=hC;have J:Hid (Tab wr l l rb k k G):=ac;have ag:Hid (Below (l+1) S wr):=a6;have e1:Hid (G i q=D i q):=hC.ik;have e2:Hid (G q j=D q j):=hC.kj;have c1:=ac.h i Y;have N:=ac.p Y z;have c3:=ac.h q z;have l1:l<wr.heap.size:=ud c1;have l2:rb i<wr.heap.size:=ud N;clear hC ac a6;by_cases be:j<k
                  · have c4:=J.o.p z be
                    have l3:rb q<wr.heap.size:=ud c4;cases H:G i q with
                    |true =>
                      rw[H]at N;have an:Hid (D i q=true):=e1.o▸H;cases Z:G q j with
                      |true =>
                        rw[Z]at c4;have aq:Hid (D q j=true):=e2.o▸Z;have c5:=J.o.p Y be;have c6:=J.o.s Y j;clear H Z;go_wp2;go_roundw
                        case rel=>exact⟨j+1,Qa G i j,oM,by go_num,HC.o.k aq.o an.o,J.o.set Y j,ag.o.setCell (p:=(Ad (rb i) j)) (J.o.a i Y) _⟩
                        case measure=>simp[intOf];omega
                      |false =>
                        rw[Z]at c4;have aq:Hid (D q j=false):=e2.o▸Z;clear H Z;go_wp2;go_roundw
                        case rel=>exact⟨j+1,G,oM,by go_num,HC.o.skip aq.o,J.o,ag.o⟩
                        case measure=>simp[intOf];omega
                    |false =>
                      rw[H]at N;have an:Hid (D i q=false):=e1.o▸H;clear H;go_wp2;go_roundw
                      case rel=>exact⟨i+1,G,oM,by go_num,Ig.b z HR.o HC.o (.inr an.o),J.o,ag.o⟩
                      case measure=>simp[intOf];omega
                  · have bb:j=k:=oM
                    have HJ:Hid (j=k):=bb;clear bb;go_wp2;go_roundw
                    case rel=>exact⟨i+1,G,oM,by go_num,Ig.b z HR.o HC.o (.inl HJ.o),J.o,ag.o⟩
                    case measure=>simp[intOf];omega
              · have bn:i=k:=oM
                subst bn;go_wp2;go_roundw
                case rel=>exact⟨q+1,D,oM,by go_num,Ig.e HW.o z HR.o,a2.o,ay.o⟩
                case measure=>simp[intOf];omega
          · have br:q=k:=oM
            subst br;obtain⟨W6,eW⟩:∃V,wr=V:=⟨_,rfl⟩;subst wr;have ap:Hid (∀i,i<q->(T i i=true↔LB g i)):=fun i o=>by
              have:=HW.o i i o o;rw[this];unfold LB;rw[t.o]
            have y0:W6.cell? (Ad w.heap.size 0)=some (Sl ra g.nr rc):=(aa.o.cell (p:=(Ad w.heap.size 0)) (show w.heap.size<l+1 by omega)).trans j0
            have y1:W6.cell? (Ad w.heap.size 1)=some (Sl la g.nb lc):=(aa.o.cell (p:=(Ad w.heap.size 1)) (show w.heap.size<l+1 by omega)).trans j1
            have bg:Hid (Below l W4 W6):=ab.o.trans (aa.o.mono oM);have ak:Hid (Bw m W6):=af.o.trans (bg.o.mono (oH au.o));have ax:Hid (Bw w W6):=B3.o.trans (ak.o.mono B3.o.size);clear HW ab aa j0 j1 HT af G0 G1;go_wp2;go_loopw [11] (fun A wr=>seI W6 q (LB g) A wr) (fun A _=>q-(intOf A).toNat)
            case atStart=>exact⟨0,wP,rfl,fun _ h=>aB h Ct,rfl⟩
            case round =>
              obtain⟨i,o,rfl,ae,b2⟩:=hrel;subst wr;have I:Hid (∀x,x<i->¬LB g x):=ae;clear ae;by_cases z:i<q
              · have c1:=ah.o.h i z
                have N:=ah.o.p z z;have l1:l<W6.heap.size:=ud c1;have l2:rb i<W6.heap.size:=ud N;cases W:T i i with
                |true =>
                  rw[W]at N;have HA:Hid (Ans g 8 i):=.ok u.o (by rw[t.o];exact .left i z ((ap.o i z).1 W) I.o)
                  clear W;go_wp2;refine wL (by simp[results,f13,go_sem];rfl) rfl ?_
                  exact⟨⟨8,i,HA.o,rfl⟩,ax.o⟩
                |false =>
                  rw[W]at N;have bh:Hid (¬LB g i):=fun h=>by have:=(ap.o i z).2 h;rw[W]at this;cases this
                  clear W;go_wp2;go_roundw
                  case rel=>exact⟨i+1,oM,by go_num,fun x hx h=>if e:x=i then bh.o (e▸h) else I.o x oM h,rfl⟩
                  case measure=>simp[intOf];omega
              · have H:i=q:=oM
                have a0:Hid (∀x,x<g.nr+g.nb->¬LB g x):=fun x hx=>I.o x (oH t.o)
                clear H I ap ah;go_wp2;go_loopw [12] (fun A wr=>lkC W6 q (OB g) A wr) (fun A _=>q-(intOf A).toNat)
                case atStart=>exact⟨0,wP,rfl,fun _ h=>aB h Ct,wI _⟩
                case round =>
                  obtain⟨p,hp,rfl,ae,C⟩:=hrel;have I:Hid (∀x,x<p->¬OB g x):=ae;have ab:Hid (Bw W6 wr):=C;have z0:=ue y0 C;have z1:=ue y1 C;have BV:Hid (Bw m wr):=ak.o.trans (C.mono ak.o.size);have BW:Hid (Bw w wr):=uf ax.o C;clear ae C;by_cases bw:p<q
                  · have a3:Hid (jQ g p):=vM u.o (oH t.o)
                    go_wp2;go_region_with (first|(go_at_call 37;refine (SN Q m ra la rc lc g _ az.o BV.o.drew h1 h2 p (oH t.o)).mono ?_;rintro e W8 ⟨⟨ba,bc,rfl,hO,ad⟩,a8⟩;have E:Bw wr W8:=(wI wr).drew.trans a8;have i0:=ue z0 E;have i1:=ue z1 E;have B8:Hid (Bw wr W8):=E;have bk:Hid (wT Q m ba (nd g p).bl (nd g p).e):=hO;have am:Hid ((nd g p).bl<=bc):=ad;clear E a8 hO ad)|(go_at_call 38;refine (ul6 Q ra la ba g.nr rc g.nb lc (nd g p).bl bc q (nd g p).e mb 0 q (S0 g).h _ t.o h1 h2 (DJ u.o.a p (oH t.o)) am.o (bk.o.q (BV.o.trans (B8.o.mono BV.o.size))) a3.o (HM.o.q (BV.o.trans (B8.o.mono BV.o.size)))).mono ?_;rintro e W9 ⟨⟨r,rfl,R⟩,a9⟩;have B9:Hid (Bw wr W9):=uf B8.o a9;have a1:Hid (r=true↔OB g p):=R.trans (utL a3.o).symm;clear a9 R))
                    all_goals (cases r
                               · have bi:Hid (¬OB g p):=fun h=>by have h9:=a1.o.2 h;cases h9
                                 go_wp2;go_roundw
                                 case rel=>exact⟨p+1,oM,by go_num,fun x hx h=>if e:x=p then bi.o (e▸h) else I.o x oM h,uf ab.o B9.o⟩
                                 case measure=>simp[intOf];omega
                               · have HA:Hid (Ans g 9 p):=.ok u.o (.loop p a0.o (oH t.o) (a1.o.1 rfl) I.o)
                                 go_wp2;refine wL (by simp[results,f13,go_sem];rfl) rfl ?_
                                 exact⟨⟨9,p,HA.o,rfl⟩,uf BW.o B9.o⟩)
                  · have bq:p=q:=oM
                    have HA:Hid (Ans g 0 0):=.ok u.o (.fine a0.o (fun x hx=>I.o x (oH t.o)))
                    clear bq;go_wp2;refine wL (by simp[results,f13,go_sem];rfl) rfl ?_
                    exact⟨⟨0,0,HA.o,rfl⟩,BW.o⟩
end Go.Proofs.YtoihadcablknpaaGreatDoor
