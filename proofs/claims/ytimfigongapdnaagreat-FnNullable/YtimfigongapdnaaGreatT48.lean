import Derived.Test.YtimfigongapdnaaGreatT47
set_option linter.unusedVariables false
set_option linter.unusedSimpArgs false
set_option maxHeartbeats 40000000
set_option maxRecDepth 100000
namespace Go.Proofs.YtimfigongapdnaaGreat
open Go.RowKit
open M (OpD ug Gr ur)
noncomputable def txS (g:Gr):ByteArray:=(uhX g).choose
theorem ufG g:Txt g (txS g)/\(txS g).size<=2700000:=(uhX g).choose_spec
def usL:List Int:=[115,32,61,32,46,32,47,32,115,50,32,59,32,115,50,32,61,32,59]
def usM:List Int:=[115,32,61,32,40,34,98,34,32,47,32,94,101,41,42,32,59,32,94,101,32,61,32,34,97,34,32,59]
noncomputable def dpB (u:Tp) (k i:Nat):(Nat×(Nat->Int))×(Nat×(Nat->Int)) :=
 (if k<20 then ofS (lsT u (dG (g4 u i)) (u.n (u.n (diT u (dG (g4 u i)) (g4 u i).2).2))).1 else ofS (txS (dG (g4 u i))),ofL (diT u (dG (g4 u i)) (g4 u i).2).1)
noncomputable def dpT (u:Tp):(Nat×(Nat->Int))×(Nat×(Nat->Int)) :=
 if u.v 0%60=0 then (ofL usL,ofL (List.replicate (3999+u.v (u.n 0)%3) 97))
 else if u.v 0%60=1 then (ofL usM,ofL (List.replicate (18+u.v (u.n 0)%5) 97))
 else if u.v 0%60=2 then (ofS (txS dpG),ofL (List.replicate (u.v (u.n 0)%60) 97))
 else if u.v 0%60<8 then (pgT (u.rest (u.n 0)),ofL [97,98,97,98])
 else dpB u (u.v 0%60) (u.n 0)
theorem ugX{l}(h:ByL l):Byt l.length (lf l):=λi a=>by
 unfold lf;rw[List.getD_eq_getElem?_getD,List.getElem?_eq_getElem a];exact h _ (List.getElem_mem a)
theorem byS s:Byt s.size (bT s):=λi a=>by
 show 0<=((s.data.toList.getD i 0).toNat:Int)/\((s.data.toList.getD i 0).toNat:Int)<=255;have:=(s.data.toList.getD i 0).toNat_lt;omega
theorem uqC s:ByL (bL s):=λx a=>by
 obtain⟨b,_,rfl⟩:=List.mem_map.1 a;have:=b.toNat_lt;omega
theorem ub3 n{c}(h:0<=c/\c<=255):ByL (List.replicate n c):=λx a=>by rw[(List.mem_replicate.1 a).2];exact h
theorem umv k at_{c}(b:0<=c/\c<=255){n S}(d:Byt n S):∀m,m<=n->ByL (mutL k at_ c S m)
 |0,_=>λx a=>by cases a
 |m+1,h=>by
  rw[mutL];refine(umv k at_ b d m (by omega)).app (λx a=>?_);have:=d m (by omega);split at a
  ·split at a
   ·cases a
   split at a
   ·obtain rfl:=List.mem_singleton.1 a;exact b
   rcases List.mem_cons.1 a with rfl|a
   ·exact b
   obtain rfl:=List.mem_singleton.1 a;exact this
  obtain rfl:=List.mem_singleton.1 a;exact this
theorem ujJ:∀k,ByL (rowsT k)
 |0=>λx a=>by cases a
 |k+1=>(ujJ k).app (uqC _)
instance (z:List Int):Decidable (ByL z):=by unfold ByL;exact List.decidableBAll _ _
theorem urb k d(a:d<3):ByL (uir k d)/\(uir k d).length<=20000:=by
 unfold uir;repeat' split
 ·exact⟨ByL.app (by decide) (ub3 _ (by decide)),by simp;omega⟩
 ·exact⟨(ByL.app (by decide) (ub3 _ (by decide))).app (by decide),by simp;omega⟩
 ·exact⟨ujJ _,by have:=ub4 (99+d) (by omega);omega⟩
 exact⟨(ByL.app (by decide) (ub3 _ (by decide))).app (uqC _),by rw[List.length_append,List.length_append,uie,show(⟨#[32,59]⟩:ByteArray).size=2 from rfl];simp;omega⟩
theorem uqD u:∀f L p,ByL L->ByL (spF u f L p)
 |0,L,_,h=>h
 |f+1,L,p,h=>by
  rw[spF];split
  ·exact uqD u f _ _ (h.app (λx a=>by obtain rfl:=List.mem_singleton.1 a;exact ufy _ _))
  exact h
def BN(n:Nat)(p:Nat×(Nat->Int)):Prop:=Byt p.1 p.2/\p.1<=n
theorem udh{n z}(h:ByL z)(a:z.length<=n):BN n (ofL z):=⟨ugX h,a⟩
theorem umw{n s}(a:s.size<=n):BN n (ofS s):=⟨byS s,a⟩
theorem urc u:BN 6000000 (pgT u):=by
 have a:=(ucV u (u.n 0)).sound (by omega);unfold pgT;repeat' split
 ·have:=urb (u.v (u.n 0)%4) (u.v (u.n (u.n 0))%3) (by omega);exact udh this.1 (by omega)
 ·exact udh (uqD u 20 [] _ (λx b=>by cases b)) (by have:=ujI u 20 [] (u.n 0);simp at this;omega)
 ·unfold ura;repeat' split
  all_goals first|exact umw (by decide)|exact udh (by decide) (by decide)
 ·have c:(lsT u (dG (vy u (u.n 0))) (vy u (u.n 0)).2).1.size<=2700000:=ufC u a (vy u (u.n 0)).2;generalize lsT u (dG (vy u (u.n 0))) (vy u (u.n 0)).2=s at *;unfold umm;refine udh (umv _ _ (ufy _ _) (byS s.1) _ (by split<;>omega)) (Nat.le_trans (udb _ _ _ _ _) (by split<;>omega))
 exact umw (Nat.le_trans (ufC u a _) (by omega))
theorem urd u:BN 6000000 (dpT u).1/\BN 5000 (dpT u).2:=by
 unfold dpT;repeat' split
 ·exact⟨udh (by decide) (by decide),udh (ub3 _ (by decide)) (by simp;omega)⟩
 ·exact⟨udh (by decide) (by decide),udh (ub3 _ (by decide)) (by simp;omega)⟩
 ·exact⟨umw (Nat.le_trans (ufG _).2 (by omega)),udh (ub3 _ (by decide)) (by simp;omega)⟩
 ·exact⟨urc _,udh (by decide) (by decide)⟩
 have a:M.Sound (dG (g4 u (u.n 0))):=(urh u (u.n 0)).sound (by omega);have b:=ujD u a (g4 u (u.n 0)).2;unfold dpB;refine⟨?_,udh b.1 (Nat.le_trans b.2 (by omega))⟩;dsimp only;split
 ·exact umw (Nat.le_trans (ufC u a _) (by omega))
 exact umw (Nat.le_trans (ufG _).2 (by omega))
def DpF(p:(Nat×(Nat->Int))×(Nat×(Nat->Int)))(w:World)(e:Ending)(w':World):Prop :=
 ∃a c b d,∃f s:Int,e=.returned (.tuple #[.slice a p.1.1 c,.slice b p.2.1 d,.int .i64 f,.int .i64 s])/\Ints (New w w') .u8 w' a p.1.1 p.1.2/\Ints (New w w') .u8 w' b p.2.1 p.2.2/\Keep (λ_=>False) w w'
def ByN(p:Nat×(Nat->Int))(w:World)(a:Option Addr)(W:World):Prop:=Ints (λb=>w.heap.size<=b) .u8 W a p.1 p.2
theorem ByN.keep{p:Nat×(Nat->Int)}{w W b a}(h:ByN p w a W)(k:Keep (λ_=>False) W b):ByN p w a b:=Ints.kept h k (λ_ _ e=>e)
theorem dpF{p:(Nat×(Nat->Int))×(Nat×(Nat->Int))}{w W a b c d f s}(e:ByN p.1 w a W)(g:ByN p.2 w b W)(k:Keep (λ_=>False) w W):DpF p w (.returned (.tuple #[.slice a p.1.1 c,.slice b p.2.1 d,.int .i64 f,.int .i64 s])) W :=
 ⟨a,c,b,d,f,s,rfl,uae e,uae g,k⟩
theorem ueQ{z w d W a n c}(h:BufI .u8 d z (.slice a n c) W)(e:w.heap.size<=d.heap.size):ByN (ofL z) w a W:=h.ints.wide (λb q=>Nat.le_trans e q.1)
theorem uen Q a n c S w(hI:Ints Q .u8 w a n S)(hB:Byt n S)(hn:n<=1048576)(hc:n<=c)(be:a=none->n=0/\c=0) :
  Calls Tryz.prog 4 #[.slice a n c] w (DpF (dpT (ugG n S hB)) w):=by
 have HC:=ua (uh9 Q a n c S w hI hB hn hc be);clear hI be hc;generalize ugG n S hB=u at *;clear hB;obtain⟨z,hz⟩:=nm (dpT u);have l:=ua hz;unfold dpT at l;rw[hz];clear hz;have hv:=u.v_le 0;go_enter Tryz.func4,Tryz.ntmps4;go_wp2_with fail;refine HC.out.mono ?_;rintro e W0 ⟨rfl,hr,hk⟩;generalize bl:w.heap.size=R at *;go_wp2_with fail;refine(uw u R 0 W0 hr).mono ?_;rintro e W1 ⟨rfl,h⟩;have i:=ua (uQ hk (by omega) h.2);have p:=ua h.1;have A:Hid (w.heap.size<=R):=by show _<=_;omega
 clear hr hk h bl;have b4:=u.v_le (u.n 0);generalize u.v 0=k0 at *;generalize u.n 0=o at *;obtain⟨k,bc⟩:=nm (k0%60);have hk':(k0:Int)%60=(k:Int):=by omega
 rw[bc]at l;clear bc;go_upto_if 24 with fail;simp only[hk'];clear hk';by_cases N:k=0
 ·have b0:((k:Int)==0)=true:=by simp[N]
  rw[if_pos N]at l;clear N;go_wp2_with fail;refine(uw u R o W1 p.out).mono ?_;rintro e W2 ⟨rfl,h⟩;replace i:=ua (uQ i.out A.out h.2);clear h;generalize u.v o=L at *;obtain⟨d,hd⟩:=nm (L%3);have hd':(L:Int)%3=(d:Int):=by omega
  have bm:d<3:=by omega
  rw[hd]at l;clear hd;have HL:Hid (∀W,Calls Tryz.prog 12 #[.int .u8 97,.int .i64 (3999+(d:Int))] W (uq8 (List.replicate (3999+d) 97) W)):=λW=>by
   have:=uaO 97 (3999+d) (by omega) W;rwa [show((3999+d:Nat):Int)=3999+(d:Int) by omega]at this
  go_wp2_with (refine ufK usL rfl _ rfl rfl rfl rfl (by omega) ?_;intro E O);refine(HL.out E).mono ?_;rintro e W4 ⟨F,U,rfl,t⟩;have V:=O.out.2;have af:=V.size;have aa:=i.out.size;have D:Hid (DpF z w (.returned (.tuple #[.slice (some ⟨W2.heap.size,0,none⟩) 19 19,.slice F (List.replicate (3999+d) (97:Int)).length U,.int .i64 1000,.int .i64 10])) W4):=by
   rw[<-l.out];exact dpF ((ueQ O.out aa).keep t.2) (ueQ t (by omega)) ((i.out.trans V).trans t.2)
  clear t V;go_wp2;refine bodyPost_ret (by simp[results,Tryz.f4,go_sem];rfl) rfl ?_;have:=D.out;rwa [List.length_replicate]at this
 have b0:((k:Int)==0)=false:=by simp;omega
 rw[if_neg N]at l;by_cases X:k=1
 ·have b1:((k:Int)==1)=true:=by simp[X]
  rw[if_pos X]at l;clear N X;go_wp2_with fail;refine(uw u R o W1 p.out).mono ?_;rintro e W2 ⟨rfl,h⟩;replace i:=ua (uQ i.out A.out h.2);clear h;generalize u.v o=L at *;obtain⟨d,hd⟩:=nm (L%5);have hd':(L:Int)%5=(d:Int):=by omega
  have bm:d<5:=by omega
  rw[hd]at l;clear hd;have HL:Hid (∀W,Calls Tryz.prog 12 #[.int .u8 97,.int .i64 (18+(d:Int))] W (uq8 (List.replicate (18+d) 97) W)):=λW=>by
   have:=uaO 97 (18+d) (by omega) W;rwa [show((18+d:Nat):Int)=18+(d:Int) by omega]at this
  go_wp2_with (refine ufK usM rfl _ rfl rfl rfl rfl (by omega) ?_;intro E O);refine(HL.out E).mono ?_;rintro e W4 ⟨F,U,rfl,t⟩;have V:=O.out.2;have af:=V.size;have aa:=i.out.size;have D:Hid (DpF z w (.returned (.tuple #[.slice (some ⟨W2.heap.size,0,none⟩) 28 28,.slice F (List.replicate (18+d) (97:Int)).length U,.int .i64 5000,.int .i64 100])) W4):=by
   rw[<-l.out];exact dpF ((ueQ O.out aa).keep t.2) (ueQ t (by omega)) ((i.out.trans V).trans t.2)
  clear t V;go_wp2;refine bodyPost_ret (by simp[results,Tryz.f4,go_sem];rfl) rfl ?_;have:=D.out;rwa [List.length_replicate]at this
 have b1:((k:Int)==1)=false:=by simp;omega
 rw[if_neg X]at l;by_cases q2:k=2
 ·have b2:((k:Int)==2)=true:=by simp[q2]
  rw[if_pos q2]at l;clear N X q2;go_wp2_with fail;refine(uw u R o W1 p.out).mono ?_;rintro e W2 ⟨rfl,h⟩;replace i:=ua (uQ i.out A.out h.2);replace p:=ua h.1;clear h;have b5:=u.v_le (u.n o);generalize u.v o=L at *;generalize u.n o=i2 at *;obtain⟨m,hm⟩:=nm (L%60);have hm':(L:Int)%60=(m:Int):=by omega
  have bs:m<60:=by omega
  rw[hm]at l;clear hm;go_wp2_with fail;refine(uw u R i2 W2 p.out).mono ?_;rintro e E ⟨rfl,h⟩;replace i:=ua (uQ i.out A.out h.2);clear h;generalize u.v i2=kw at *;go_wp2_with fail;refine(ugH E).mono ?_;rintro e W4 ⟨I,B,la,lc,rfl,hX,bb⟩;have P:=ua (Keep.alloc (λ_=>False) W4 (.cells #[.slice I dpG.nr B,.slice la dpG.nb lc] 28));have HX:=ua (hX.later P.out.bel);replace i:=ua (i.out.trans bb);have ah:=ua (ufG dpG).1;have ac:Hid (vF dpG):=gs_dp.small (by omega);clear hX bb;generalize txS dpG=s at *;generalize dpG=g at *;go_wp2_with fail;generalize W4.alloc _=W5 at *;refine(ued _ I la B lc g s W5 HX.out ac.out ah.out).mono ?_;rintro e T ⟨a6,c6,rfl,ax,a1⟩;have k6:=vK a1;have HL:=ua (uaO 97 m (by omega) T);have bn:=i.out.size;have aa:=P.out.size;have af:=k6.size;have bj:Hid (ByN (ofS s) w a6 T):=ax.wide (λb q=>by have:=q.1;omega);replace i:=ua ((i.out.trans P.out).trans k6);clear ax a1 k6;go_wp2_with fail;refine HL.out.mono ?_;rintro e Z ⟨a7,c7,rfl,ae⟩;have D:Hid (∀f:Int,DpF z w (.returned (.tuple #[.slice a6 s.size c6,.slice a7 (List.replicate m (97:Int)).length c7,.int .i64 20000,.int .i64 f])) Z):=λf=>by
   rw[<-l.out];exact dpF (bj.out.keep ae.2) (ueQ ae (by omega)) (i.out.trans ae.2)
  clear ae;go_wp2;refine bodyPost_ret (by simp[results,Tryz.f4,go_sem];rfl) rfl ?_;have:=D.out;rw[List.length_replicate]at this;exact this _
 have b2:((k:Int)==2)=false:=by simp;omega
 rw[if_neg q2]at l;by_cases q8:k<8
 ·have b8:(k:Int)<8:=by omega
  rw[if_pos q8]at l;clear N X q2 q8;go_wp2_with fail;refine(uik u R o W1 p.out).mono ?_;rintro e W2 ⟨a2,c2,rfl,aq,a9,h⟩;replace i:=ua (uQ i.out A.out h.2);have HD:=ua (uij u o R a2 c2 W2 aq a9 (λv j=>(ucV v j).sound (by omega)));clear aq a9 h;go_wp2_with fail;refine HD.out.mono ?_;rintro e E ⟨a3,c3,rfl,au,al⟩;have aa:=i.out.size;have af:=al.size;have O:Hid (ByN (pgT (u.rest o)) w a3 E):=au.wide (λb q=>by have:=q.1;omega);replace i:=ua (i.out.trans al);clear au al;generalize pgT (u.rest o)=p3 at *;go_wp2_with (refine ufK [97,98,97,98] rfl _ rfl rfl rfl rfl (by omega) ?_;intro W4 ag);refine bodyPost_ret (by simp[results,Tryz.f4,go_sem];rfl) rfl ?_;rw[<-l.out];exact dpF (O.out.keep ag.out.2) (ueQ ag.out (by omega)) (i.out.trans ag.out.2)
 have b8:¬(k:Int)<8:=by omega
 rw[if_neg q8]at l;clear N X q2 q8;unfold dpB at l;have Y:Hid (M.Sound (dG (g4 u o))):=(urh u o).sound (by omega);have ac:Hid (vF (dG (g4 u o))):=(urh u o).small (by omega);obtain⟨r,ak⟩:=nm (g4 u o);rw[ak]at l Y ac;go_wp2_with fail;refine(ubl u R o W1 p.out r ak).mono ?_;rintro e W2 ⟨rv,lv,G,rs,ls,rfl,ba,an,am,h⟩;obtain⟨I,B,la,lc,rfl,rfl,hX⟩:=ba.zgram;rw[an,am]at hX;have bo:=p.out.lt;have bn:=i.out.size;have y:=ua (show GR (New W1 W2) R W2.heap.size I la (dG r) W2 from ⟨λb q=>⟨by have:=q.1;omega,q.2⟩,Nat.le_refl _,hX⟩);replace i:=ua (uQ i.out A.out h.2);replace p:=ua h.1;have bf:rs.length=(dG r).nr:=by rw[show(dG r).nr=r.1.1.length from rfl,<-an,List.length_map]
 have bd:ls.length=(dG r).nb:=by rw[show(dG r).nb=r.1.2.length from rfl,<-am,List.length_map]
 rw[bf,bd];have P:=ua (Keep.alloc (λ_=>False) W2 (.cells #[.slice I (dG r).nr B,.slice la (dG r).nb lc] 28));have C:=ua (ux W2 #[.slice I (dG r).nr B,.slice la (dG r).nb lc] 28);have aa:=h.2.size;clear ba an am h hX bf bd ak;generalize dG r=g at *;have ao:=ua (ujD u Y.out r.2);go_upto_region 18 with fail;have bh:W2.heap.size≠R:=by omega
 have bz:W2.heap.size<(W2.alloc (.cells #[.slice I g.nr B,.slice la g.nb lc] 28)).heap.size:=by simp
 generalize br:W2.heap.size=gb at *;generalize W2.alloc _=E at *;replace y:=ua (y.out.keep (P.out.mono (λ_ e=>e.elim)));replace p:=ua (p.out.keep P.out (λ_ e=>e.elim));replace i:=ua (i.out.trans P.out);obtain⟨z3,p3,l3⟩:=C.out.x;go_wp2_with fail;refine(ucK u Y.out ac.out B lc r.2 E y.out p.out).mono ?_;rintro e W4 ⟨v4,rfl,t⟩;obtain⟨F,U,rfl⟩:=t.shape;have h:=t.on;obtain⟨_,av,_⟩:=ubj t.own;replace i:=ua (uQ i.out A.out h.2);replace y:=ua (y.out.keep h.2);replace p:=ua h.1;replace C:=ua (C.out.keepR h.2 bh);have af:=h.2.size;have ab:=ua av;clear t av h z3 p3 l3;generalize diT u g r.2=H at *;obtain⟨z3,p3,l3⟩:=C.out.x;go_wp2_with fail;refine(uh7 _ I la B lc g Y.out W4 y.out.g).mono ?_;rintro e W5 ⟨a5,c5,rfl,aw,a0⟩;have J:=vK a0;have bu:=J.size;have bp:=p.out.lt;have bg:=ul5 Y.out;have ap:=ua (ueo u R H.2 (λb=>R<b/\b<W5.heap.size) a5 (pgN g) c5 (pgI g) F H.1.length U (lf H.1) W5 (λb q=>⟨by omega,q.2⟩) (aw.wide (λb q=>⟨by have:=q.1;omega,q.2⟩)) bg.2 (by omega) ((uae (ab.out.kept J (λ_ _ e=>e))).wide (λb q=>⟨by have:=q.1;omega,q.2⟩)) (ugX ao.out.1) (by have:=ao.out.2;omega) (p.out.keep J (λ_ e=>e.elim)));replace i:=ua (i.out.trans J);replace y:=ua (y.out.keep (J.mono (λ_ e=>e.elim)));replace ab:=ua (ab.out.kept J (λ_ _ e=>e));replace C:=ua (C.out.blk (J.block gb l3 (λe=>e)));clear aw a0 J bg z3 p3 l3;go_wp2_with fail;refine ap.out.mono ?_;rintro e T ⟨fu,sk,rfl,h⟩;have bw:=h.2.size;replace i:=ua (uQ i.out A.out h.2);replace y:=ua (y.out.keep h.2);replace p:=ua h.1;replace C:=ua (C.out.keepR h.2 bh);have ad:Hid (Ints (λb=>R<b) .u8 T F H.1.length (lf H.1)):=(ab.out.kept h.2 (λb q=>by omega)).wide (λb q=>by omega);have bq:=A.out;clear h ap ab;obtain⟨z6,p6,l6⟩:=C.out.x;by_cases bi:k<20
 ·have bk:(k:Int)<20:=by omega
  rw[if_pos bi]at l;go_wp2_with fail;refine(qh u Y.out B lc _ T y.out p.out).mono ?_;rintro e Z ⟨rfl,h⟩;have bx:=h.2.size;replace i:=ua (uQ i.out A.out h.2);replace ad:Hid (ByN (ofL H.1) w F Z):=(ad.out.kept h.2 (λb q=>by omega)).wide (λb q=>by omega);clear h;generalize lsT u g (u.n (u.n H.2))=tx at *;obtain⟨a8,c8,W8,bt,az,ai⟩:=ubb Z tx.1;have D:Hid (DpF z w (.returned (.tuple #[.slice a8 tx.1.size c8,.slice F H.1.length U,.int .i64 fu,.int .i64 sk])) W8):=by
   rw[<-l.out];exact dpF (az.wide (λb q=>by omega)) (ad.out.keep (vK ai)) (i.out.trans (vK ai))
  clear az ai;go_wp2;refine bodyPost_ret (by simp[results,Tryz.f4,go_sem];rfl) rfl ?_;exact D.out
 have bk:¬(k:Int)<20:=by omega
 rw[if_neg bi]at l;have ah:=ua (ufG g).1;generalize txS g=s at *;go_wp2_with fail;refine(ued _ I la B lc g s T y.out.g ac.out ah.out).mono ?_;rintro e Z ⟨a7,c7,rfl,ay,aj⟩;have b3:=i.out.size;have D:Hid (DpF z w (.returned (.tuple #[.slice a7 s.size c7,.slice F H.1.length U,.int .i64 fu,.int .i64 sk])) Z):=by
  rw[<-l.out];exact dpF (ay.wide (λb q=>by have:=q.1;omega)) (ByN.keep (W:=T) (ad.out.wide (λb q=>by omega)) (vK aj)) (i.out.trans (vK aj))
 clear ay aj;go_wp2;refine bodyPost_ret (by simp[results,Tryz.f4,go_sem];rfl) rfl ?_;exact D.out
end Go.Proofs.YtimfigongapdnaaGreat
