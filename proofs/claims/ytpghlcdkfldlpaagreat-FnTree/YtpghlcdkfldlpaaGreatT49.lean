import Derived.Test.YtpghlcdkfldlpaaGreatT25
import Derived.Test.YtpghlcdkfldlpaaGreatT48
set_option linter.unusedVariables false
set_option linter.unusedSimpArgs false
set_option maxHeartbeats 40000000
set_option maxRecDepth 100000
namespace Go.Proofs.YtpghlcdkfldlpaaGreat
section
open Go.RowKit
open M (OpD ue Gr um EX ins uG)
namespace M
def EX.SetLe(m:Nat):EX->Prop
 | .empty=>True
 | .set n _=>n<=m
 | .ref _=>True
 | .thr _ _=>True
 | .seq x y=>x.SetLe m/\y.SetLe m
 | .alt x y=>x.SetLe m/\y.SetLe m
 | .star x=>x.SetLe m
 | .not x=>x.SetLe m
theorem uaQ{nr m:Nat}{o:OpD}(ho:o.sl<=m){x y:EX}(hx:x.SetLe m)(hy:y.SetLe m):(nodeE nr o x y).SetLe m:=by
 unfold nodeE
 repeat' split
 all_goals first|exact ho | exact⟨hx,hy⟩ | exact hx | trivial
theorem ukg{nr m:Nat}(B:Nat->OpD)(n:Nat)(hB:∀i,i<n->(B i).sl<=m):∀p,p∈stk (nodeE nr) B n->p.2.SetLe m:=by
 induction n with
 |zero=>intro p hp;simp[stk]at hp
 |succ n ih =>
  have ih':=ih (fun i hi=>hB i (by omega))
  have ho:=hB n (by omega)
  have hd:=trivial;rw[stk];generalize stk (nodeE nr) B n=l at *;intro p hp;unfold stp at hp;split at hp
  ·match l,ih',hp with
   | [],_,hp=>simp at hp
   | [_],_,hp=>simp at hp
   | (s2,y)::(s1,x)::r,ih',hp =>
    rcases List.mem_cons.1 hp with rfl | hp
    ·exact uaQ ho (ih' (s1,x) (by simp)) (ih' (s2,y) (by simp))
    ·exact ih' p (by simp[hp])
  ·split at hp
   ·match l,ih',hp with
    | [],_,hp=>simp at hp
    | (s1,x)::r,ih',hp =>
     rcases List.mem_cons.1 hp with rfl | hp
     ·exact uaQ ho (ih' (s1,x) (by simp)) hd
     ·exact ih' p (by simp[hp])
   ·rcases List.mem_cons.1 hp with rfl | hp
    ·exact uaQ ho hd hd
    ·exact ih' p hp
theorem tree_setLe{nr m n:Nat}{B:Nat->OpD}(hB:∀i,i<n->(B i).sl<=m):(treeE nr n B).SetLe m:=by
 unfold treeE;have:=ukg (nr:=nr) B n hB;generalize stk (nodeE nr) B n=l at *;match l,this with
 | [],_=>trivial
 | (s,t)::r,h=>exact h (s,t) (by simp)
theorem emit_setLe(r:Nat->Int)(m:Nat)(t:EX)(ht:t.SetLe m):∀p d,d∈uG r t p->d.sl<=m:=by
 have hin:∀k a z:Int,(ins k a z).sl<=m:=fun k a z=>Nat.zero_le _
 induction t with
 |empty=>intro p d hd;simp[uG]at hd
 |set n S=>intro p d hd;simp[uG]at hd;subst hd;exact ht
 |ref n=>intro p d hd;simp[uG]at hd;subst hd;exact hin _ _ _
 |thr l n=>intro p d hd;simp[uG]at hd;subst hd;exact hin _ _ _
 |seq x y ihx ihy =>
  intro p d hd;rw[uG]at hd;rcases List.mem_append.1 hd with q | q
  ·exact ihx ht.1 _ d q
  ·exact ihy ht.2 _ d q
 |alt x y ihx ihy =>
  intro p d hd;rw[uG]at hd;rcases List.mem_cons.1 hd with rfl | q
  ·exact hin _ _ _
  ·rcases List.mem_append.1 q with q | q
   ·exact ihx ht.1 _ d q
   ·rcases List.mem_cons.1 q with rfl | q
    ·exact hin _ _ _
    ·exact ihy ht.2 _ d q
 |star x ih =>
  intro p d hd;rw[uG]at hd;rcases List.mem_cons.1 hd with rfl | q
  ·exact hin _ _ _
  ·rcases List.mem_append.1 q with q | q
   ·exact ih ht _ d q
   ·simp at q;subst q;exact hin _ _ _
 |not x ih =>
  intro p d hd;rw[uG]at hd;rcases List.mem_cons.1 hd with rfl | q
  ·exact hin _ _ _
  ·rcases List.mem_append.1 q with q | q
   ·exact ih ht _ d q
   ·simp at q;subst q;exact hin _ _ _
end M
theorem ujf{g:Gr}(hV:M.Sound g){p:Nat}(hp:p<g.nr+g.nb):∀i,i<(nd g p).bl->M.ElemOK g.nr g.nb ((nd g p).body i):=fun i hi =>
 (kU hV hp).elim (fun q=>by omega) (fun h=>h.1 i hi)
theorem ujg{nr nb:Nat}{o:OpD}(h:M.ElemOK nr nb o):o.sl<=512:=by
 obtain⟨_,_,h1,h2,_⟩:=h;by_cases e:o.kind=1
 ·have:=M.canon_len (h1 e)
  omega
 ·have:=h2 e
  omega
theorem ulz{g:Gr}(hV:M.Sound g)(k:Nat)(hk:k<=g.nr+g.nb):∀d,d∈vW g k->d.sl<=512:=by
 have hin:∀k a z:Int,(ins k a z).sl<=512:=fun k a z=>Nat.zero_le _
 induction k with
 |zero =>
  intro d hd;have hd':d=ins 6 0 (plc g 0)\/d=ins 12 0 0:=by simpa[vW,M.progC] using hd
  rcases hd' with rfl | rfl<;>exact hin _ _ _
 |succ k ih =>
  intro d hd;by_cases h:0<(nd g k).bl
  ·rw[ud3 g k h]at hd
   simp only[List.mem_append,List.mem_singleton]at hd;rcases hd with (((q | q) | q) | q) | q
   ·exact ih (by omega) d q
   ·subst q
    unfold opG;split<;>exact hin _ _ _
   ·exact M.emit_setLe _ _ _ (M.tree_setLe (fun i hi=>ujg (ujf hV (by omega) i hi))) _ d q
   ·subst q;exact hin _ _ _
   ·subst q;exact hin _ _ _
  ·rw[ud4 g k h]at hd
   exact ih (by omega) d hd
def dat(l:List um)(i:Nat):um:=(l[i]?).getD (ins 0 0 0)
theorem ujh{L:List IC}{i:Nat}(h:i<L.length):dat (L.map IC.d) i=L[i].d:=by simp[dat,h]
theorem ulA{Q:Nat->Prop}{w:World}{g:Nat}{L:List IC}(hcell:∀j,j<(uH L).length->w.cell? ⟨g,j,none⟩=(uH L)[j]?){i:Nat}(hi:i<L.length) :
  w.cell? ⟨g,i*4,none⟩=some (.int .i64 (dat (L.map IC.d) i).kind)/\w.cell? ⟨g,i*4+1,none⟩=some (.int .i64 (dat (L.map IC.d) i).arg)/\w.cell? ⟨g,i*4+2,none⟩=some (.int .i64 (dat (L.map IC.d) i).to)/\w.cell? ⟨g,i*4+3,none⟩=some (.slice L[i].a (dat (L.map IC.d) i).sl L[i].c):=by
 have hx:=List.getElem?_eq_getElem hi;have hl:=uaN L;have hg:∀j,j<4->w.cell? ⟨g,i*4+j,none⟩=(icv L[i])[j]?:=fun j hj=>by
  rw[hcell _ (by rw[hl];omega),uaO L i j _ hx hj]
 rw[ujh hi];exact⟨hg 0 (by omega),hg 1 (by omega),hg 2 (by omega),hg 3 (by omega)⟩
theorem uji{P S Q:Nat->Prop}{w:World}{a:Option Addr}{c:Nat}{L:List IC}(own:OwnC P w (.slice a L.length c) 4 L.length (uH L))(sets:SetsA S w L)(hP:∀b,P b->Q b)(hS:∀b,S b->Q b):InsA Q w a L.length (dat (L.map IC.d)):=by
 rcases own with⟨_,e,_⟩|⟨g,cap,e,hq,hl,hc,hcell,hw⟩
 ·exact .inl e
 ·obtain rfl:a=some ⟨g,0,none⟩:=by injection e
  refine .inr ⟨g,0,rfl,hP g hq,fun i hi=>?_⟩
  obtain⟨h0,h1,h2,h3⟩:=ulA (Q:=Q) hcell hi;rw[Nat.zero_add];refine⟨h0,h1,h2,_,_,h3,?_⟩;rw[ujh hi];exact (sets L[i] (List.getElem_mem hi)).wide hS
def pgN(g:Gr):Nat:=PL g (g.nr+g.nb)
def pgI(g:Gr):Nat->um:=dat (vW g (g.nr+g.nb))
theorem uhS{g:Gr}(hV:M.Sound g):pgN g<=5000/\∀i,i<pgN g->(pgI g i).sl<=512:=by
 refine⟨ubI hV _ (Nat.le_refl _),fun i hi=>?_⟩
 have hl:i<(vW g (g.nr+g.nb)).length:=by rw[kG];exact hi
 have e:pgI g i=(vW g (g.nr+g.nb))[i]:=by simp[pgI,dat,hl]
 rw[e];exact ulz hV _ (Nat.le_refl _) _ (List.getElem_mem hl)
def PgA(g:Gr)(w:World)(e:Ending)(w':World):Prop:=∃a c,e=.returned (.slice a (pgN g) c)/\InsA (New w w') w' a (pgN g) (pgI g)/\Below w.heap.size w w'
def PgT(g:Gr)(w:World)(e:Ending)(w':World):Prop:=∃a c,e=.returned (.tuple #[.slice a (pgN g) c,.int .i64 0])/\InsA (New w w') w' a (pgN g) (pgI g)/\Below w.heap.size w w'
theorem uc5(Q:Nat->Prop)(ra la:Option Addr)(rc lc:Nat)(g:Gr)(hV:M.Sound g)(w:World)(hG:GramX Q w ra la g):Calls Tryz.prog 21 #[.agg #[.slice ra g.nr rc,.slice la g.nb lc]] w (PgA g w):=by
 refine (uer Q ra la rc lc g hV w hG).mono ?_;rintro e W ⟨a,n,c,L,rfl,HN,HM,HR⟩;have hn:n=pgN g:=by rw[HN.out];unfold pgN;rw[<-kG,<-HM.out,List.length_map]
 have hR:=HR;have hb:=hR.bel;obtain⟨P,S,h⟩:=hR;refine⟨a,c,by rw[hn],?_,hb⟩
 have hN:=HN;subst hN;have:=uji (Q:=New w W) h.own h.sets (fun b hb=>⟨(h.p b hb).1,(h.p b hb).2.1⟩) (fun b hb=>⟨(h.s b hb).1,(h.s b hb).2⟩)
 rw[HM.out,hn]at this;exact this
theorem ukh(Q:Nat->Prop)(ra la:Option Addr)(rc lc:Nat)(g:Gr)(hV:M.Valid g)(hs:vP g)(w:World)(hG:GramX Q w ra la g):Calls Tryz.prog 6 #[.agg #[.slice ra g.nr rc,.slice la g.nb lc]] w (PgT g w):=by
 have HG:=ua hG;have HV:=ua hV;have BG:=ua (uw w #[.slice ra g.nr rc,.slice la g.nb lc] 28);have HB:=ua (uf w (.cells #[.slice ra g.nr rc,.slice la g.nb lc] 28));go_enter Tryz.func6,Tryz.ntmps6;go_upto_region 1 with fail
 generalize w.alloc _=W0 at *;obtain⟨z,p,l⟩:=BG.x;go_wp2_with fail;refine (qw Q ra la rc lc g W0 (HG.later HB).plain hs).mono ?_;rintro e W1 ⟨⟨r,rfl,hr⟩,hb⟩;obtain rfl:=hr.2 HV;replace BG:=ua (BG.on hb);replace HB:=ua (ud HB hb);clear z p l hr hb;obtain⟨z,p,l⟩:=BG.x;go_wp2_with fail;refine (uc5 Q ra la rc lc g HV.sound W1 (HG.later HB)).mono ?_;rintro e W2 ⟨a,c,rfl,hI,hb⟩;have HF:Hid (InsA (New w W2) W2 a (pgN g) (pgI g)/\Below w.heap.size w W2):=⟨hI.wide (fun b q=>⟨Nat.le_trans HB.size q.1,q.2⟩),ud HB hb⟩
 go_wp2;refine bodyPost_ret (by simp[results,Tryz.f6,go_sem];rfl) rfl ?_
 exact⟨a,c,rfl,HF⟩
theorem uki(Q:Nat->Prop)(ra la:Option Addr)(rc lc:Nat)(g:Gr)(hV:M.Valid g)(hs:vP g)(w:World)(hG:GramX Q w ra la g):Calls Tryz.prog 8 #[.agg #[.slice ra g.nr rc,.slice la g.nb lc]] w (PgT g w):=by
 refine (ugb Q ra la rc lc g w hG hs).mono ?_;rintro e W ⟨⟨_,a,n,c,L,P,S,rfl,hN,hM,h⟩|⟨q,_⟩,hb⟩
 ·have hn:n=pgN g:=by rw[hN];unfold pgN;rw[<-kG,<-hM,List.length_map]
  refine⟨a,c,by rw[hn],?_,hb⟩
  subst hN;have:=uji (Q:=New w W) h.own h.sets (fun b hb=>⟨(h.p b hb).1.1,(h.p b hb).1.2⟩) (fun b hb=>⟨(h.s b hb).1,(h.s b hb).2⟩)
  rw[hM,hn]at this;exact this
 ·exact absurd hV q
end
open Go.RowKit
open M (OpD ue Gr um)
noncomputable def txS (g:Gr):ByteArray:=(uhB g).choose
theorem ufB g:Txt g (txS g)/\(txS g).size<=2700000:=(uhB g).choose_spec
def urD:List Int:=[115,32,61,32,46,32,47,32,115,50,32,59,32,115,50,32,61,32,59]
def urE:List Int:=[115,32,61,32,40,34,98,34,32,47,32,94,101,41,42,32,59,32,94,101,32,61,32,34,97,34,32,59]
noncomputable def dpB (u:Tp) (k i:Nat):(Nat×(Nat->Int))×(Nat×(Nat->Int)) :=
 (if k<20 then ofS (lsT u (dG (g4 u i)) (u.n (u.n (diT u (dG (g4 u i)) (g4 u i).2).2))).1 else ofS (txS (dG (g4 u i))),ofL (diT u (dG (g4 u i)) (g4 u i).2).1)
noncomputable def dpT (u:Tp):(Nat×(Nat->Int))×(Nat×(Nat->Int)) :=
 if u.v 0%60=0 then (ofL urD,ofL (List.replicate (3999+u.v (u.n 0)%3) 97))
 else if u.v 0%60=1 then (ofL urE,ofL (List.replicate (18+u.v (u.n 0)%5) 97))
 else if u.v 0%60=2 then (ofS (txS dpG),ofL (List.replicate (u.v (u.n 0)%60) 97))
 else if u.v 0%60<8 then (pgT (u.rest (u.n 0)),ofL [97,98,97,98])
 else dpB u (u.v 0%60) (u.n 0)
theorem ugB{l}(h:ByL l):Byt l.length (lf l):=λi a=>by
 unfold lf;rw[List.getD_eq_getElem?_getD,List.getElem?_eq_getElem a];exact h _ (List.getElem_mem a)
theorem byS s:Byt s.size (bT s):=λi a=>by
 show 0<=((s.data.toList.getD i 0).toNat:Int)/\((s.data.toList.getD i 0).toNat:Int)<=255;have:=(s.data.toList.getD i 0).toNat_lt;omega
theorem upB s:ByL (bL s):=λx a=>by
 obtain⟨b,_,rfl⟩:=List.mem_map.1 a;have:=b.toNat_lt;omega
theorem ubT n{c}(h:0<=c/\c<=255):ByL (List.replicate n c):=λx a=>by rw[(List.mem_replicate.1 a).2];exact h
theorem ulZ k at_{c}(b:0<=c/\c<=255){n S}(d:Byt n S):∀m,m<=n->ByL (mutL k at_ c S m)
 |0,_=>λx a=>by cases a
 |m+1,h=>by
  rw[mutL];refine(ulZ k at_ b d m (by omega)).app (λx a=>?_);have:=d m (by omega);split at a
  ·split at a
   ·cases a
   split at a
   ·obtain rfl:=List.mem_singleton.1 a;exact b
   rcases List.mem_cons.1 a with rfl|a
   ·exact b
   obtain rfl:=List.mem_singleton.1 a;exact this
  obtain rfl:=List.mem_singleton.1 a;exact this
theorem uju:∀k,ByL (rowsT k)
 |0=>λx a=>by cases a
 |k+1=>(uju k).app (upB _)
instance (z:List Int):Decidable (ByL z):=by unfold ByL;exact List.decidableBAll _ _
theorem up4 k d(a:d<3):ByL (uic k d)/\(uic k d).length<=20000:=by
 unfold uic;repeat' split
 ·exact⟨ByL.app (by decide) (ubT _ (by decide)),by simp;omega⟩
 ·exact⟨(ByL.app (by decide) (ubT _ (by decide))).app (by decide),by simp;omega⟩
 ·exact⟨uju _,by have:=ubU (99+d) (by omega);omega⟩
 exact⟨(ByL.app (by decide) (ubT _ (by decide))).app (upB _),by rw[List.length_append,List.length_append,uhZ,show(⟨#[32,59]⟩:ByteArray).size=2 from rfl];simp;omega⟩
theorem upC u:∀f L p,ByL L->ByL (spF u f L p)
 |0,L,_,h=>h
 |f+1,L,p,h=>by
  rw[spF];split
  ·exact upC u f _ _ (h.app (λx a=>by obtain rfl:=List.mem_singleton.1 a;exact uft _ _))
  exact h
def BN(n:Nat)(p:Nat×(Nat->Int)):Prop:=Byt p.1 p.2/\p.1<=n
theorem udh{n z}(h:ByL z)(a:z.length<=n):BN n (ofL z):=⟨ugB h,a⟩
theorem ul0{n s}(a:s.size<=n):BN n (ofS s):=⟨byS s,a⟩
theorem up5 u:BN 6000000 (pgT u):=by
 have a:=(ucQ u (u.n 0)).sound (by omega);unfold pgT;repeat' split
 ·have:=up4 (u.v (u.n 0)%4) (u.v (u.n (u.n 0))%3) (by omega);exact udh this.1 (by omega)
 ·exact udh (upC u 20 [] _ (λx b=>by cases b)) (by have:=ujt u 20 [] (u.n 0);simp at this;omega)
 ·unfold up3;repeat' split
  all_goals first|exact ul0 (by decide)|exact udh (by decide) (by decide)
 ·have c:(lsT u (dG (vH u (u.n 0))) (vH u (u.n 0)).2).1.size<=2700000:=ufx u a (vH u (u.n 0)).2;generalize lsT u (dG (vH u (u.n 0))) (vH u (u.n 0)).2=s at *;unfold ulQ;refine udh (ulZ _ _ (uft _ _) (byS s.1) _ (by split<;>omega)) (Nat.le_trans (udb _ _ _ _ _) (by split<;>omega))
 exact ul0 (Nat.le_trans (ufx u a _) (by omega))
theorem up6 u:BN 6000000 (dpT u).1/\BN 5000 (dpT u).2:=by
 unfold dpT;repeat' split
 ·exact⟨udh (by decide) (by decide),udh (ubT _ (by decide)) (by simp;omega)⟩
 ·exact⟨udh (by decide) (by decide),udh (ubT _ (by decide)) (by simp;omega)⟩
 ·exact⟨ul0 (Nat.le_trans (ufB _).2 (by omega)),udh (ubT _ (by decide)) (by simp;omega)⟩
 ·exact⟨up5 _,udh (by decide) (by decide)⟩
 have a:M.Sound (dG (g4 u (u.n 0))):=(uqa u (u.n 0)).sound (by omega);have b:=ujo u a (g4 u (u.n 0)).2;unfold dpB;refine⟨?_,udh b.1 (Nat.le_trans b.2 (by omega))⟩;dsimp only;split
 ·exact ul0 (Nat.le_trans (ufx u a _) (by omega))
 exact ul0 (Nat.le_trans (ufB _).2 (by omega))
def DpF(p:(Nat×(Nat->Int))×(Nat×(Nat->Int)))(w:World)(e:Ending)(w':World):Prop :=
 ∃a c b d,∃f s:Int,e=.returned (.tuple #[.slice a p.1.1 c,.slice b p.2.1 d,.int .i64 f,.int .i64 s])/\Ints (New w w') .u8 w' a p.1.1 p.1.2/\Ints (New w w') .u8 w' b p.2.1 p.2.2/\Keep (λ_=>False) w w'
def ByN(p:Nat×(Nat->Int))(w:World)(a:Option Addr)(W:World):Prop:=Ints (λb=>w.heap.size<=b) .u8 W a p.1 p.2
theorem ByN.keep{p:Nat×(Nat->Int)}{w W b a}(h:ByN p w a W)(k:Keep (λ_=>False) W b):ByN p w a b:=Ints.kept h k (λ_ _ e=>e)
theorem dpF{p:(Nat×(Nat->Int))×(Nat×(Nat->Int))}{w W a b c d f s}(e:ByN p.1 w a W)(g:ByN p.2 w b W)(k:Keep (λ_=>False) w W):DpF p w (.returned (.tuple #[.slice a p.1.1 c,.slice b p.2.1 d,.int .i64 f,.int .i64 s])) W :=
 ⟨a,c,b,d,f,s,rfl,uak e,uak g,k⟩
theorem ueK{z w d W a n c}(h:BufI .u8 d z (.slice a n c) W)(e:w.heap.size<=d.heap.size):ByN (ofL z) w a W:=h.ints.wide (λb q=>Nat.le_trans e q.1)
theorem uej Q a n c S w(hI:Ints Q .u8 w a n S)(hB:Byt n S)(hn:n<=1048576)(hc:n<=c)(be:a=none->n=0/\c=0) :
  Calls Tryz.prog 4 #[.slice a n c] w (DpF (dpT (ugk n S hB)) w):=by
 have HC:=ua (uhU Q a n c S w hI hB hn hc be);clear hI be hc;generalize ugk n S hB=u at *;clear hB;obtain⟨z,hz⟩:=nm (dpT u);have l:=ua hz;unfold dpT at l;rw[hz];clear hz;have hv:=u.v_le 0;go_enter Tryz.func4,Tryz.ntmps4;go_wp2_with fail;refine HC.out.mono ?_;rintro e W0 ⟨rfl,hr,hk⟩;generalize bl:w.heap.size=R at *;go_wp2_with fail;refine(uu u R 0 W0 hr).mono ?_;rintro e W1 ⟨rfl,h⟩;have i:=ua (uR hk (by omega) h.2);have p:=ua h.1;have A:Hid (w.heap.size<=R):=by show _<=_;omega
 clear hr hk h bl;have b4:=u.v_le (u.n 0);generalize u.v 0=k0 at *;generalize u.n 0=o at *;obtain⟨k,bc⟩:=nm (k0%60);have hk':(k0:Int)%60=(k:Int):=by omega
 rw[bc]at l;clear bc;go_upto_if 24 with fail;simp only[hk'];clear hk';by_cases N:k=0
 ·have b0:((k:Int)==0)=true:=by simp[N]
  rw[if_pos N]at l;clear N;go_wp2_with fail;refine(uu u R o W1 p.out).mono ?_;rintro e W2 ⟨rfl,h⟩;replace i:=ua (uR i.out A.out h.2);clear h;generalize u.v o=L at *;obtain⟨d,hd⟩:=nm (L%3);have hd':(L:Int)%3=(d:Int):=by omega
  have bm:d<3:=by omega
  rw[hd]at l;clear hd;have HL:Hid (∀W,Calls Tryz.prog 13 #[.int .u8 97,.int .i64 (3999+(d:Int))] W (up1 (List.replicate (3999+d) 97) W)):=λW=>by
   have:=uaU 97 (3999+d) (by omega) W;rwa [show((3999+d:Nat):Int)=3999+(d:Int) by omega]at this
  go_wp2_with (refine ufF urD rfl _ rfl rfl rfl rfl (by omega) ?_;intro E O);refine(HL.out E).mono ?_;rintro e W4 ⟨F,U,rfl,t⟩;have V:=O.out.2;have af:=V.size;have aa:=i.out.size;have D:Hid (DpF z w (.returned (.tuple #[.slice (some ⟨W2.heap.size,0,none⟩) 19 19,.slice F (List.replicate (3999+d) (97:Int)).length U,.int .i64 1000,.int .i64 10])) W4):=by
   rw[<-l.out];exact dpF ((ueK O.out aa).keep t.2) (ueK t (by omega)) ((i.out.trans V).trans t.2)
  clear t V;go_wp2;refine bodyPost_ret (by simp[results,Tryz.f4,go_sem];rfl) rfl ?_;have:=D.out;rwa [List.length_replicate]at this
 have b0:((k:Int)==0)=false:=by simp;omega
 rw[if_neg N]at l;by_cases X:k=1
 ·have b1:((k:Int)==1)=true:=by simp[X]
  rw[if_pos X]at l;clear N X;go_wp2_with fail;refine(uu u R o W1 p.out).mono ?_;rintro e W2 ⟨rfl,h⟩;replace i:=ua (uR i.out A.out h.2);clear h;generalize u.v o=L at *;obtain⟨d,hd⟩:=nm (L%5);have hd':(L:Int)%5=(d:Int):=by omega
  have bm:d<5:=by omega
  rw[hd]at l;clear hd;have HL:Hid (∀W,Calls Tryz.prog 13 #[.int .u8 97,.int .i64 (18+(d:Int))] W (up1 (List.replicate (18+d) 97) W)):=λW=>by
   have:=uaU 97 (18+d) (by omega) W;rwa [show((18+d:Nat):Int)=18+(d:Int) by omega]at this
  go_wp2_with (refine ufF urE rfl _ rfl rfl rfl rfl (by omega) ?_;intro E O);refine(HL.out E).mono ?_;rintro e W4 ⟨F,U,rfl,t⟩;have V:=O.out.2;have af:=V.size;have aa:=i.out.size;have D:Hid (DpF z w (.returned (.tuple #[.slice (some ⟨W2.heap.size,0,none⟩) 28 28,.slice F (List.replicate (18+d) (97:Int)).length U,.int .i64 5000,.int .i64 100])) W4):=by
   rw[<-l.out];exact dpF ((ueK O.out aa).keep t.2) (ueK t (by omega)) ((i.out.trans V).trans t.2)
  clear t V;go_wp2;refine bodyPost_ret (by simp[results,Tryz.f4,go_sem];rfl) rfl ?_;have:=D.out;rwa [List.length_replicate]at this
 have b1:((k:Int)==1)=false:=by simp;omega
 rw[if_neg X]at l;by_cases q2:k=2
 ·have b2:((k:Int)==2)=true:=by simp[q2]
  rw[if_pos q2]at l;clear N X q2;go_wp2_with fail;refine(uu u R o W1 p.out).mono ?_;rintro e W2 ⟨rfl,h⟩;replace i:=ua (uR i.out A.out h.2);replace p:=ua h.1;clear h;have b5:=u.v_le (u.n o);generalize u.v o=L at *;generalize u.n o=i2 at *;obtain⟨m,hm⟩:=nm (L%60);have hm':(L:Int)%60=(m:Int):=by omega
  have bs:m<60:=by omega
  rw[hm]at l;clear hm;go_wp2_with fail;refine(uu u R i2 W2 p.out).mono ?_;rintro e E ⟨rfl,h⟩;replace i:=ua (uR i.out A.out h.2);clear h;generalize u.v i2=kw at *;go_wp2_with fail;refine(ugl E).mono ?_;rintro e W4 ⟨I,B,la,lc,rfl,hX,bb⟩;have P:=ua (Keep.alloc (λ_=>False) W4 (.cells #[.slice I dpG.nr B,.slice la dpG.nb lc] 28));have HX:=ua (hX.later P.out.bel);replace i:=ua (i.out.trans bb);have ah:=ua (ufB dpG).1;have ac:Hid (vP dpG):=gs_dp.small (by omega);clear hX bb;generalize txS dpG=s at *;generalize dpG=g at *;go_wp2_with fail;generalize W4.alloc _=W5 at *;refine(ud5 _ I la B lc g s W5 HX.out ac.out ah.out).mono ?_;rintro e T ⟨a6,c6,rfl,ax,a1⟩;have k6:=vR a1;have HL:=ua (uaU 97 m (by omega) T);have bn:=i.out.size;have aa:=P.out.size;have af:=k6.size;have bj:Hid (ByN (ofS s) w a6 T):=ax.wide (λb q=>by have:=q.1;omega);replace i:=ua ((i.out.trans P.out).trans k6);clear ax a1 k6;go_wp2_with fail;refine HL.out.mono ?_;rintro e Z ⟨a7,c7,rfl,ae⟩;have D:Hid (∀f:Int,DpF z w (.returned (.tuple #[.slice a6 s.size c6,.slice a7 (List.replicate m (97:Int)).length c7,.int .i64 20000,.int .i64 f])) Z):=λf=>by
   rw[<-l.out];exact dpF (bj.out.keep ae.2) (ueK ae (by omega)) (i.out.trans ae.2)
  clear ae;go_wp2;refine bodyPost_ret (by simp[results,Tryz.f4,go_sem];rfl) rfl ?_;have:=D.out;rw[List.length_replicate]at this;exact this _
 have b2:((k:Int)==2)=false:=by simp;omega
 rw[if_neg q2]at l;by_cases q8:k<8
 ·have b8:(k:Int)<8:=by omega
  rw[if_pos q8]at l;clear N X q2 q8;go_wp2_with fail;refine(uh5 u R o W1 p.out).mono ?_;rintro e W2 ⟨a2,c2,rfl,aq,a9,h⟩;replace i:=ua (uR i.out A.out h.2);have HD:=ua (uh4 u o R a2 c2 W2 aq a9 (λv j=>(ucQ v j).sound (by omega)));clear aq a9 h;go_wp2_with fail;refine HD.out.mono ?_;rintro e E ⟨a3,c3,rfl,au,al⟩;have aa:=i.out.size;have af:=al.size;have O:Hid (ByN (pgT (u.rest o)) w a3 E):=au.wide (λb q=>by have:=q.1;omega);replace i:=ua (i.out.trans al);clear au al;generalize pgT (u.rest o)=p3 at *;go_wp2_with (refine ufF [97,98,97,98] rfl _ rfl rfl rfl rfl (by omega) ?_;intro W4 ag);refine bodyPost_ret (by simp[results,Tryz.f4,go_sem];rfl) rfl ?_;rw[<-l.out];exact dpF (O.out.keep ag.out.2) (ueK ag.out (by omega)) (i.out.trans ag.out.2)
 have b8:¬(k:Int)<8:=by omega
 rw[if_neg q8]at l;clear N X q2 q8;unfold dpB at l;have Y:Hid (M.Sound (dG (g4 u o))):=(uqa u o).sound (by omega);have ac:Hid (vP (dG (g4 u o))):=(uqa u o).small (by omega);obtain⟨r,ak⟩:=nm (g4 u o);rw[ak]at l Y ac;go_wp2_with fail;refine(ubl u R o W1 p.out r ak).mono ?_;rintro e W2 ⟨rv,lv,G,rs,ls,rfl,ba,an,am,h⟩;obtain⟨I,B,la,lc,rfl,rfl,hX⟩:=ba.zgram;rw[an,am]at hX;have bo:=p.out.lt;have bn:=i.out.size;have y:=ua (show GR (New W1 W2) R W2.heap.size I la (dG r) W2 from ⟨λb q=>⟨by have:=q.1;omega,q.2⟩,Nat.le_refl _,hX⟩);replace i:=ua (uR i.out A.out h.2);replace p:=ua h.1;have bf:rs.length=(dG r).nr:=by rw[show(dG r).nr=r.1.1.length from rfl,<-an,List.length_map]
 have bd:ls.length=(dG r).nb:=by rw[show(dG r).nb=r.1.2.length from rfl,<-am,List.length_map]
 rw[bf,bd];have P:=ua (Keep.alloc (λ_=>False) W2 (.cells #[.slice I (dG r).nr B,.slice la (dG r).nb lc] 28));have C:=ua (uw W2 #[.slice I (dG r).nr B,.slice la (dG r).nb lc] 28);have aa:=h.2.size;clear ba an am h hX bf bd ak;generalize dG r=g at *;have ao:=ua (ujo u Y.out r.2);go_upto_region 18 with fail;have bh:W2.heap.size≠R:=by omega
 have bz:W2.heap.size<(W2.alloc (.cells #[.slice I g.nr B,.slice la g.nb lc] 28)).heap.size:=by simp
 generalize br:W2.heap.size=gb at *;generalize W2.alloc _=E at *;replace y:=ua (y.out.keep (P.out.mono (λ_ e=>e.elim)));replace p:=ua (p.out.keep P.out (λ_ e=>e.elim));replace i:=ua (i.out.trans P.out);obtain⟨z3,p3,l3⟩:=C.out.x;go_wp2_with fail;refine(ucG u Y.out ac.out B lc r.2 E y.out p.out).mono ?_;rintro e W4 ⟨v4,rfl,t⟩;obtain⟨F,U,rfl⟩:=t.shape;have h:=t.on;obtain⟨_,av,_⟩:=ubj t.own;replace i:=ua (uR i.out A.out h.2);replace y:=ua (y.out.keep h.2);replace p:=ua h.1;replace C:=ua (C.out.keepR h.2 bh);have af:=h.2.size;have ab:=ua av;clear t av h z3 p3 l3;generalize diT u g r.2=H at *;obtain⟨z3,p3,l3⟩:=C.out.x;go_wp2_with fail;refine(uc5 _ I la B lc g Y.out W4 y.out.g).mono ?_;rintro e W5 ⟨a5,c5,rfl,aw,a0⟩;have J:=vR a0;have bu:=J.size;have bp:=p.out.lt;have bg:=uhS Y.out;have ap:=ua (uek u R H.2 (λb=>R<b/\b<W5.heap.size) a5 (pgN g) c5 (pgI g) F H.1.length U (lf H.1) W5 (λb q=>⟨by omega,q.2⟩) (aw.wide (λb q=>⟨by have:=q.1;omega,q.2⟩)) bg.2 (by omega) ((uak (ab.out.kept J (λ_ _ e=>e))).wide (λb q=>⟨by have:=q.1;omega,q.2⟩)) (ugB ao.out.1) (by have:=ao.out.2;omega) (p.out.keep J (λ_ e=>e.elim)));replace i:=ua (i.out.trans J);replace y:=ua (y.out.keep (J.mono (λ_ e=>e.elim)));replace ab:=ua (ab.out.kept J (λ_ _ e=>e));replace C:=ua (C.out.blk (J.block gb l3 (λe=>e)));clear aw a0 J bg z3 p3 l3;go_wp2_with fail;refine ap.out.mono ?_;rintro e T ⟨fu,sk,rfl,h⟩;have bw:=h.2.size;replace i:=ua (uR i.out A.out h.2);replace y:=ua (y.out.keep h.2);replace p:=ua h.1;replace C:=ua (C.out.keepR h.2 bh);have ad:Hid (Ints (λb=>R<b) .u8 T F H.1.length (lf H.1)):=(ab.out.kept h.2 (λb q=>by omega)).wide (λb q=>by omega);have bq:=A.out;clear h ap ab;obtain⟨z6,p6,l6⟩:=C.out.x;by_cases bi:k<20
 ·have bk:(k:Int)<20:=by omega
  rw[if_pos bi]at l;go_wp2_with fail;refine(qA u Y.out B lc _ T y.out p.out).mono ?_;rintro e Z ⟨rfl,h⟩;have bx:=h.2.size;replace i:=ua (uR i.out A.out h.2);replace ad:Hid (ByN (ofL H.1) w F Z):=(ad.out.kept h.2 (λb q=>by omega)).wide (λb q=>by omega);clear h;generalize lsT u g (u.n (u.n H.2))=tx at *;obtain⟨a8,c8,W8,bt,az,ai⟩:=ubc Z tx.1;have D:Hid (DpF z w (.returned (.tuple #[.slice a8 tx.1.size c8,.slice F H.1.length U,.int .i64 fu,.int .i64 sk])) W8):=by
   rw[<-l.out];exact dpF (az.wide (λb q=>by omega)) (ad.out.keep (vR ai)) (i.out.trans (vR ai))
  clear az ai;go_wp2;refine bodyPost_ret (by simp[results,Tryz.f4,go_sem];rfl) rfl ?_;exact D.out
 have bk:¬(k:Int)<20:=by omega
 rw[if_neg bi]at l;have ah:=ua (ufB g).1;generalize txS g=s at *;go_wp2_with fail;refine(ud5 _ I la B lc g s T y.out.g ac.out ah.out).mono ?_;rintro e Z ⟨a7,c7,rfl,ay,aj⟩;have b3:=i.out.size;have D:Hid (DpF z w (.returned (.tuple #[.slice a7 s.size c7,.slice F H.1.length U,.int .i64 fu,.int .i64 sk])) Z):=by
  rw[<-l.out];exact dpF (ay.wide (λb q=>by have:=q.1;omega)) (ByN.keep (W:=T) (ad.out.wide (λb q=>by omega)) (vR aj)) (i.out.trans (vR aj))
 clear ay aj;go_wp2;refine bodyPost_ret (by simp[results,Tryz.f4,go_sem];rfl) rfl ?_;exact D.out
end Go.Proofs.YtpghlcdkfldlpaaGreat
