import Derived.Test.YtpghlcdkfldlpaaGreatT16
set_option linter.unusedVariables false
set_option linter.unusedSimpArgs false
set_option maxHeartbeats 40000000
set_option maxRecDepth 100000
namespace Go.Proofs.YtpghlcdkfldlpaaGreat
open Go.RowKit Go.Shelf
open M (OpD ue Gr)
attribute [local go_sem] Oper.semAt_some
theorem upH:(Tryz.prog.info? 3).map (λi=>(i.zero,i.size,i.bytes))=some (some (.int .i64 0),1,8):=by kernel_rfl
def yS(g:Gr)(p l:Nat):Prop:=∃q,q<p/\M.Throws (nd g q).bl (nd g q).body l
def uhj(g:Gr)(p k l:Nat):Prop:=yS g p l\/M.Throws k (nd g p).body l
def uiJ(g:Gr):Prop:=∀p,p<g.nr+g.nb->∀i,i<(nd g p).bl->((nd g p).body i).kind=3->0<=((nd g p).body i).arg/\((nd g p).body i).arg<g.nb
def Cnt(x:World)(b a:Nat)(P:Nat->Prop)(top:Nat):Prop :=
 ∃f:Nat->Nat,x.rowIs b 3 a (λi=>.int .i64 (f i))/\(∀i,i<a->(f i≠0↔P i))/\∀i,i<a->f i<=top
theorem Cnt.bump{x}{b d top a:Nat}{P}(h:Cnt x b d P top)(j:a<d){z:Nat}(m:x.cell? ⟨b,a,none⟩=some (.int .i64 (z:Int))) :
  Cnt (x.setCell ⟨b,a,none⟩ (.int .i64 ((z:Int)+1))) b d (λi=>P i\/i=a) (top+1):=by
 obtain⟨f,g,k,l⟩:=h;have n:(f a:Int)=z:=by
  have:=g.cell j;rw[m]at this;simp at this;omega
 refine⟨λi=>if i=a then f a+1 else f i,(g.set a _).congr λi c=>?_,λi c=>?_,λi c=>?_⟩
 ·by_cases e:i=a
  ·subst e;simp;omega
  simp[e]
 ·by_cases e:i=a
  ·subst e;simp
  simp[e,k i c]
 have:=l i c;by_cases e:i=a
 ·subst e;simp;omega
 simp[e];omega
def unb(g:Gr):Prop:=∀i,i<g.nb->(g.lab i).has=false->yS g (g.nr+g.nb) i
theorem Cnt.congr{x b c top g P d}(h:Cnt x b c P top)(e:∀i,i<c->(P i↔d i))(m:top<=g):Cnt x b c d g:=by
 obtain⟨f,l,k,j⟩:=h;exact⟨f,l,λi a=>(k i a).trans (e i a),λi a=>Nat.le_trans (j i a) m⟩
theorem Cnt.of_block{x z b a top P}(h:Cnt x b a P top)(e:z.heap[b]?=x.heap[b]?):Cnt z b a P top:=by
 obtain⟨f,g,d,c⟩:=h;exact⟨f,g.of_block e,d,c⟩
theorem uhk B l:¬M.Throws 0 B l:=by rintro⟨i,a,_⟩;omega
theorem qZ k B l:M.Throws (k+1) B l↔M.Throws k B l\/((B k).kind=3/\(B k).arg=l):=by
 constructor
 ·rintro⟨i,a,h⟩;by_cases e:i=k
  ·subst e;exact .inr h
  exact .inl ⟨i,by omega,h⟩
 rintro (⟨i,a,h⟩|h)
 ·exact⟨i,by omega,h⟩
 exact⟨k,by omega,h⟩
theorem ueo g p l:yS g (p+1) l↔uhj g p (nd g p).bl l:=by
 constructor
 ·rintro⟨q,a,h⟩;by_cases e:q=p
  ·subst e;exact .inr h
  exact .inl ⟨q,by omega,h⟩
 rintro (⟨q,a,h⟩|h)
 ·exact⟨q,by omega,h⟩
 exact⟨p,by omega,h⟩
structure MtOwn(w:World)(y:Nat)(ra la:Option Addr)(nr rc nb lc:Nat)(P:Nat->Prop)(top:Nat)(x:World):Prop where
 box0:x.cell? ⟨y,0,none⟩=some (.slice ra nr rc)
 box1:x.cell? ⟨y,1,none⟩=some (.slice la nb lc)
 sl:x.cell? ⟨y+1+1,0,none⟩=some (.slice (some ⟨y+1,0,none⟩) nb nb)
 cnt:Cnt x (y+1) nb P top
 bel:Below y w x
 size:y+4<=x.heap.size
theorem MtOwn.below{w y c la nr d b lc P top x z}(h:MtOwn w y c la nr d b lc P top x)(a:Below (y+4) x z):MtOwn w y c la nr d b lc P top z :=
 ⟨(a.cell (p:=⟨y,0,none⟩) (by show y<y+4;omega)).trans h.box0,(a.cell (p:=⟨y,1,none⟩) (by show y<y+4;omega)).trans h.box1,
  (a.cell (p:=⟨y+1+1,0,none⟩) (by show y+1+1<y+4;omega)).trans h.sl,h.cnt.of_block (a.block _ (by omega)),h.bel.trans (a.mono (by omega)),Nat.le_trans h.size a.size⟩
theorem MtOwn.congr{w y c la nr d a lc P b top f x}(h:MtOwn w y c la nr d a lc P top x)(e:∀i,i<a->(P i↔b i))(g:top<=f):MtOwn w y c la nr d a lc b f x :=
 ⟨h.box0,h.box1,h.sl,h.cnt.congr e g,h.bel,h.size⟩
theorem MtOwn.bump{w}{y:Nat}{c la}{nr d b lc:Nat}{P}{top:Nat}{x}(h:MtOwn w y c la nr d b lc P top x){a:Nat}(e:a<b){z:Nat}(f:x.cell? ⟨y+1,a,none⟩=some (.int .i64 (z:Int))) :
  MtOwn w y c la nr d b lc (λi=>P i\/i=a) (top+1) (x.setCell ⟨y+1,a,none⟩ (.int .i64 ((z:Int)+1))) :=
 ⟨by rw[World.cell?_of_block (Below.heap_setCell x ⟨y+1,a,none⟩ _ y (by simp))];exact h.box0,
  by rw[World.cell?_of_block (Below.heap_setCell x ⟨y+1,a,none⟩ _ y (by simp))];exact h.box1,
  by rw[World.cell?_of_block (Below.heap_setCell x ⟨y+1,a,none⟩ _ (y+1+1) (by simp))];exact h.sl,
  h.cnt.bump e f,h.bel.setCell (p:=⟨y+1,a,none⟩) (by show y<=y+1;omega) _,by simpa[World.setCell] using h.size⟩
def uqQ(w:World)(a la:Option Addr)(b lc:Nat)(g:Gr)(p:Nat)(x:World):Prop:=MtOwn w w.heap.size a la g.nr b g.nb lc (yS g p) (xW g p) x/\p<=g.nr+g.nb
def uqR(w d:World)(a la:Option Addr)(c lc:Nat)(g:Gr)(p:Nat)(i:Value)(wr:World):Prop :=
 ∃k:Nat,k<=(nd g p).bl/\i=.int .i64 (k:Int)/\MtOwn w w.heap.size a la g.nr c g.nb lc (uhj g p k) (xW g p+k) wr/\Keep (λb=>b=w.heap.size+1) d wr
theorem udM Q l la n lc g rb ro lb lo(X ba:Nat->Option Addr)Y bc w(U:vP g)(hF:∀W,Below w.heap.size w W->Flat W l la g rb ro lb lo X ba Y bc)(hO:∀p,p<g.nr+g.nb->OpsA Q w (ba p) (nd g p).bl (nd g p).body)(hA:uiJ g)(a4:xW g (g.nr+g.nb)<=2000) :
  CallsIn Fence.wide 0 Tryz.prog 75 #[.agg #[.slice l g.nr n,.slice la g.nb lc]] w (xS (unb g) w):=by
 have a8:Fence.wide.depth=none:=rfl;have h1:=U.nr;have h2:=U.nb;have HF:=ua hF;have HO:=ua hO;have ap:=ua hA;have a2:∀p,p<g.nr+g.nb->(nd g p).bl<=1048576/\xW g p+(nd g p).bl<=2000:=λp J=>by
  refine⟨?_,?_⟩
  ·unfold nd;split
   ·exact(U.rule p (by omega)).body.1
   exact(U.lab (p-g.nr) (by omega)).body.1
  rw[<-uau];exact Nat.le_trans (M.sum_le _ (by omega)) a4
 have HS:=ua a2;have am:0<g.nr->rb<w.heap.size:=λh=>ub ((hF w (Below.refl _ _)).r0 0 h)
 have al:0<g.nb->lb<w.heap.size:=λh=>ub ((hF w (Below.refl _ _)).l0 0 h)
 have be:=run_make_row' (P:=Tryz.prog) 34 3 (.int .i64 0) 8 Tryz.underlying34 upH rfl .i64 .i64 g.nb (by omega) (by omega);refine callsIn_of_wp_marks Tryz.func75 rfl trivial ?_ rfl;simp only[Tryz.ntmps75,List.size_toArray,List.length_cons,List.length_nil,Nat.reduceAdd,Nat.reduceSub,Array.replicate_succ,Array.replicate_zero,List.push_toArray,List.append_toArray,List.nil_append,List.cons_append]
 gi_wp2_with (refine⟨trivial,?_⟩;gi_at_call 102;refine(uhq _ _ _ _ _ _ _).mono ?_;rintro e w' ⟨rfl,rfl⟩)
 obtain⟨G,t⟩:=nm ((((w.alloc (Obj.cells #[Value.slice l g.nr n,Value.slice la g.nb lc] 28)).alloc (Obj.cells (madeCells #[Value.int IntKind.i64 0] g.nb) 3)).alloc (Obj.cells #[Value.slice (some ⟨w.heap.size+1,0,none⟩) g.nb g.nb] 34)).alloc (Obj.cells #[Value.slice l g.nr n,Value.slice la g.nb lc] 28));have bi:G.heap.size=w.heap.size+4:=by rw[<-t];simp
 have ah:Below w.heap.size w G:=by rw[<-t];exact((((Below.refl _ w).alloc (Nat.le_refl _) _).alloc (by simp) _).alloc (by simp;omega) _).alloc (by simp;omega) _
 have u:=kF w (.slice l g.nr n) (.slice la g.nb lc) 28;have hm:=World.rowIs_made (w.alloc (Obj.cells #[Value.slice l g.nr n,Value.slice la g.nb lc] 28)) (.int .i64 0) g.nb 3;have D:=kt ((w.alloc (Obj.cells #[Value.slice l g.nr n,Value.slice la g.nb lc] 28)).alloc (Obj.cells (madeCells #[Value.int IntKind.i64 0] g.nb) 3)) (.slice (some ⟨w.heap.size+1,0,none⟩) g.nb g.nb) 34;have V:=kF (((w.alloc (Obj.cells #[Value.slice l g.nr n,Value.slice la g.nb lc] 28)).alloc (Obj.cells (madeCells #[Value.int IntKind.i64 0] g.nb) 3)).alloc (Obj.cells #[Value.slice (some ⟨w.heap.size+1,0,none⟩) g.nb g.nb] 34)) (.slice l g.nr n) (.slice la g.nb lc) 28;simp only[World.size_alloc]at u hm D V;rw[t]at V;have a6:MtOwn w w.heap.size l la g.nr n g.nb lc (yS g 0) (xW g 0) G:=by
  rw[<-t];refine⟨uv _ (uv _ (uv _ u.1)),uv _ (uv _ (uv _ u.2)),uv _ D,⟨λ_=>0,((hm.alloc _).alloc _).congr λi F=>rfl,λi F=>?_,λi F=>Nat.zero_le _⟩,by rw[t];exact ah,by rw[t];omega⟩;exact⟨λh=>absurd rfl h,λ⟨q,hq,_⟩=>absurd hq (Nat.not_lt_zero _)⟩
 rw[t];refine uas (gf:=127) (lb:=#[.pointer (some ⟨w.heap.size+1+1+1,0,none⟩)]) rfl (enters_of Tryz.func127 (by kernel_rfl) rfl)
  (ucr (w.heap.size+1+1+1) l la n lc g rb ro lb lo X ba Y bc G h1 h2 V.1 V.2 (HF G ah)) (λ_=>rfl) ?hD (λk=>k=w.heap.size+1) ?hCD ?hCw
  (uqQ w l la n lc g) (λ_ _ _=>False) ?hI ?hIx ?h0 ?round ?done ?stop
 case hD =>
  rintro k (rfl|⟨rfl,y⟩|⟨rfl,y⟩)
  ·omega
  ·have:=am y;omega
  have:=al y;omega
 case hCD =>
  rintro k (rfl|⟨rfl,y⟩|⟨rfl,y⟩) hc
  ·omega
  ·have:=am y;omega
  have:=al y;omega
 case hCw =>
  rintro k hk hc;omega
 case hI =>
  rintro s A E ⟨c,J⟩ v;exact⟨c.below (v.mono (by omega)),J⟩
 case hIx =>
  rintro cd s A E h v;exact h
 case h0=>exact⟨a6,Nat.zero_le _⟩
 case round =>
  intro l' p x bb bd aq o;unfold uhp
  gi_wp2
  refine⟨Keep.refl _ _,aq,?_⟩;rintro x2 a9 bg ⟨c,az⟩;obtain⟨b1,b2⟩:=HS p o;have aa:=ua c
  gi_wp2
  gi_loopw [20] (λi wr=>uqR w x2 l la n lc g p i wr) (λi _=>(nd g p).bl-(intOf i).toNat)
  case atStart=>exact⟨0,Nat.zero_le _,rfl,aa.congr (λi F=>⟨.inl,λh=>h.elim id (λq=>absurd q (uhk _ _))⟩) (Nat.le_refl _),Keep.refl _ _⟩
  case round =>
   obtain⟨k,hk,rfl,c,aj⟩:=hrel;by_cases ak:k<(nd g p).bl
   ·have hB:=(HO p o).later c.bel;rcases hB with h0|⟨b,off,ax,hq,hB⟩
    ·omega
    obtain⟨H,⟨sa,sc,I,a5⟩,c2⟩:=hB k ak;have ay:=ub H;have ab:=ap p o k ak;obtain⟨d,R⟩:=nm ((nd g p).body k);have HD:=ua R;rw[R]at H I c2 ab;obtain⟨kd,sl,S,a7⟩:=d;simp only at H I c2 ab;have ae:=ua aj;have ag:=ua c;have g2:=c.sl;have ao:=c.size;rw[ax];by_cases e3:kd=3
    ·subst e3;obtain⟨a0,a1⟩:=ab rfl;obtain⟨a,rfl⟩:=Int.eq_ofNat_of_zero_le a0;have u:a<g.nb:=(by omega);obtain⟨f,D,J,ht⟩:=c.cnt;have L:=D.cell u;have g4:=D.frozen a;have g5:=ht a u;generalize f a=z at L g5;have l1:w.heap.size+1<wr.heap.size:=(by omega);have l2:w.heap.size+1+1<wr.heap.size:=(by omega);have ha':(a:Int)<(g.nb:Int):=(by omega);have a3:=(ag.bump u L);have af:=ua a3
     gi_wp2
     go_roundw
     case rel =>
      refine⟨k+1,by omega,by go_num,?_,?_⟩
      ·refine(af.below ((Below.refl _ _).alloc (by have:=af.size;omega) _)).congr (λi F=>?_) (by omega);show(yS g p i\/M.Throws k (nd g p).body i)\/i=a↔yS g p i\/M.Throws (k+1) (nd g p).body i;rw[qZ,HD.out];show _↔yS g p i\/M.Throws k (nd g p).body i\/((3:Int)=3/\(a:Int)=i);constructor
       ·rintro ((h|h)|h)
        ·exact .inl h
        ·exact .inr (.inl h)
        exact .inr (.inr ⟨rfl,by omega⟩)
       rintro (h|h|h)
       ·exact .inl (.inl h)
       ·exact .inl (.inr h)
       exact .inr (by omega)
      exact ae.trans ((Keep.setCell (C:=λb=>b=w.heap.size+1) wr ⟨w.heap.size+1,a,none⟩ _ rfl).trans (Keep.alloc _ _ _))
     case measure=>simp[intOf];omega
    have f3:(kd==3)=false:=(by simp[e3]);have E3:=ua e3
    gi_wp2
    go_roundw
    case rel=>exact⟨k+1,by omega,by go_num,(ag.below ((Below.refl _ wr).alloc (by omega) _)).congr (λi F=>⟨λh=>h.imp id (λq=>(qZ _ _ _).2 (.inl q)),λh=>h.imp id (λq=>((qZ _ _ _).1 q).elim id (λr=>absurd (by rw[HD.out]at r;exact r.1) E3))⟩) (by omega),ae.trans (Keep.alloc _ _ _)⟩
    case measure=>simp[intOf];omega
   obtain rfl:k=(nd g p).bl:=by omega
   gi_wp2
   exact⟨aj,c.congr (λi F=>(ueo g p i).symm) (Nat.le_refl _),by omega⟩
 case done =>
  rintro d p x R bf ⟨c,az⟩ O;obtain rfl:p=g.nr+g.nb:=by omega
  have ai:=(Array.getElem?_eq_some_iff.1 O).1;have g0:=c.box0;have g1:=c.box1;have g2:=c.sl;have ao:=c.size;have aa:=ua c
  gi_wp2
  gi_loopw [38] (λi wr=>ufk x g.nb (λj=>(g.lab j).has=false->yS g (g.nr+g.nb) j) i wr) (λi _=>g.nb-(intOf i).toNat)
  case atStart=>exact⟨0,Nat.zero_le _,rfl,Below.refl _ _,λj hj=>absurd hj (Nat.not_lt_zero _)⟩
  case round =>
   obtain⟨m,hm,rfl,v,aw⟩:=hrel;have HM:=ua aw;have Z:=ua v;have a5:=v.size;have av:=(v.block d ai).trans O;have c:=aa.below (v.mono ao);have ad:=ua c.bel;have g2:=c.sl;have l1:w.heap.size+1<wr.heap.size:=(by omega);have l2:w.heap.size+1+1<wr.heap.size:=(by omega);by_cases o:m<g.nb
   ·have N:=HF wr c.bel;obtain rfl:=N.la (by omega);have H:=N.l0 m o;have I:=N.l1 m o;have c2:=N.l2 m o;have ay:=ub H;have hlt':(m:Int)<(g.nb:Int):=(by omega);obtain⟨f,D,J,ht⟩:=c.cnt;have L:=D.cell o;have an:=J m o;generalize f m=z at L an;have HP:=ua an;cases T:(g.lab m).has with
    |true =>
     have HH:=ua T;rw[T]at I
     gi_wp2
     go_roundw
     case rel=>exact⟨m+1,by omega,by go_num,ud Z (uf wr _),vB HM (λq=>absurd (HH.symm.trans q) (by decide))⟩
     case measure=>simp[intOf];omega
    |false =>
     have HH:=ua T;rw[T]at I;by_cases hz:z=0
     ·subst hz
      gi_wp2
      have au:(wr.alloc (Obj.cells #[Value.slice (X (g.nr+m)) (nd g (g.nr+m)).nl (Y (g.nr+m)),Value.bool false,Value.slice (ba (g.nr+m)) (nd g (g.nr+m)).bl (bc (g.nr+m))] 73)).heap[d]?=some (.deferred (some [])):=(Below.heap_alloc _ _ _ (by omega)).trans ((Z.out.block d ai).trans O);refine⟨by simp,.inl ⟨_,_,rfl,run_takeDeferred au,?_⟩⟩;have ac:=kP (B:=w.heap.size) (wr.alloc (Obj.cells #[Value.slice (X (g.nr+m)) (nd g (g.nr+m)).nl (Y (g.nr+m)),Value.bool false,Value.slice (ba (g.nr+m)) (nd g (g.nr+m)).bl (bc (g.nr+m))] 73)) (.deferred none) (d:=d) (by omega) (by simp;omega);refine⟨.bool false,?_,⟨false,rfl,uJ λq=>?_⟩,(ud ad (uf wr _)).trans ac⟩
      ·simp[results,Tryz.f75,go_sem]
      exact(HP.2 (q m o HH)) rfl
     have hz':((z:Int)==0)=false:=(by simp;omega);have HZ:=ua hz
     gi_wp2
     go_roundw
     case rel=>exact⟨m+1,by omega,by go_num,ud Z (uf wr _),vB HM (λ_=>HP.1 HZ)⟩
     case measure=>simp[intOf];omega
   obtain rfl:m=g.nb:=by omega
   gi_wp2
   refine⟨by simp,.inl ⟨_,_,rfl,run_takeDeferred av,?_⟩⟩;have ac:=kP (B:=w.heap.size) wr (.deferred none) (d:=d) (by omega) (by omega);refine⟨.bool true,?_,⟨true,rfl,xI HM⟩,ad.trans ac⟩;simp[results,Tryz.f75,go_sem]
 case stop =>
  rintro d cd p x R bh h O;exact h.elim
open Go.RowKit
theorem qq Q a n c T w(f:Ints Q .u8 w a n T)(s:∀i,i<n->0<=T i/\T i<=255)(D:n<=1048576) :
  Calls Tryz.prog 103 #[.slice a n c] w (Says (M.NameB n T) w):=by
 go_enter Tryz.func103,Tryz.ntmps103;go_wp2;go_loopw [7] (λi wr=>∃k:Nat,k<=n/\i=.int .i64 k/\wr=w/\∀j,j<k->M.Letter (T j)\/M.Digit (T j)) (λi _=>n-(intOf i).toNat)
 case atStart=>exact⟨0,Nat.zero_le _,rfl,rfl,λj u=>absurd u (Nat.not_lt_zero _)⟩
 case round =>
  obtain⟨k,C,rfl,rfl,z⟩:=hrel;have o:=ua z;by_cases m:k<n
  ·rcases f with p|⟨b,off,rfl,A,f⟩
   ·omega
   have t:=f k m;obtain⟨h,l⟩:=s k m;by_cases v:M.Letter (T k)\/M.Digit (T k)
   ·have g:Hid (M.Letter (T k)\/M.Digit (T k)):=v;go_wp2_with (go_at_call 128;refine(js (T k) _ h l).mono ?_;rintro e W ⟨⟨r,rfl,d⟩,x⟩;subst W;obtain rfl:r=true:=d.2 g;clear d);go_roundw
    case rel=>exact⟨k+1,by omega,by go_num,by trivial,λj u=>if e:j=k then e▸g.out else o j (by omega)⟩
    case measure=>simp[intOf];omega
   have g:Hid (¬(M.Letter (T k)\/M.Digit (T k))):=v;go_wp2_with (go_at_call 128;refine(js (T k) _ h l).mono ?_;rintro e W ⟨⟨r,rfl,d⟩,x⟩;subst W;obtain rfl:r=false:=by { cases r;rfl;exact absurd (d.1 rfl) g };clear d);go_ret;exact⟨⟨false,rfl,uJ λq=>g (q.1 k m)⟩,rfl⟩
  obtain rfl:k=n:=by omega
  by_cases p:k=0
  ·subst p;go_wp2;go_ret;exact⟨⟨false,rfl,uJ λq=>by have:=q.2.1;omega⟩,rfl⟩
  rcases f with B|⟨b,off,rfl,A,f⟩
  ·omega
  have t:=f 0 (by omega);rw[Nat.add_zero]at t;obtain⟨h,l⟩:=s 0 (by omega);have E:(0:Int)<(k:Int):=by omega
  go_wp2_with (go_at_call 129;refine(kV (T 0) _ h l).mono ?_;rintro e W ⟨⟨r,rfl,d⟩,x⟩;subst W;have y:Hid _:=d;clear d);go_ret;exact⟨⟨_,rfl,y.trans ⟨λq=>⟨o,by omega,q⟩,λq=>q.2.2⟩⟩,rfl⟩
theorem uiM n T(a:0<n)(b:n<=32)(c:M.Letter (T 0)):M.NameOK n T↔∀i,i<n->M.Letter (T i)\/M.Digit (T i) :=
 ⟨λq=>q.2.1,λq=>⟨b,q,a,c⟩⟩
theorem kQ Q a n c T w(o:Ints Q .u8 w a n T)(x:∀i,i<n->0<=T i/\T i<=255)(J:n<=1048576) :
  Calls Tryz.prog 64 #[.slice a n c] w (Says (M.NameOK n T) w):=by
 by_cases B:n=0
 ·subst B;go_enter Tryz.func64,Tryz.ntmps64;go_wp2;go_ret;exact⟨⟨false,rfl,uJ λq=>by have:=q.2.2.1;omega⟩,rfl⟩
 have O:¬(n:Int)<1:=by omega
 by_cases G:32<n
 ·have E:(32:Int)<n:=by omega
  go_enter Tryz.func64,Tryz.ntmps64;go_wp2;go_ret;exact⟨⟨false,rfl,uJ λq=>by have:=q.1;omega⟩,rfl⟩
 have E:¬(32:Int)<n:=by omega
 rcases o with F|⟨b,off,rfl,N,o⟩
 ·omega
 have D:=o 0 (by omega);rw[Nat.add_zero]at D;obtain⟨A,y1⟩:=x 0 (by omega);have L:(0:Int)<(n:Int):=by omega
 rcases Classical.em (¬M.Letter (T 0)) with t|t
 ·have f:Hid (¬M.Letter (T 0)):=t;go_enter Tryz.func64,Tryz.ntmps64;go_wp2_with (go_at_call 94;refine(vq (T 0) _ A y1).mono ?_;rintro e W ⟨⟨r,rfl,d⟩,g⟩;subst W;obtain rfl:r=false:=by { cases r;rfl;exact absurd (d.1 rfl) f };clear d);go_ret;exact⟨⟨false,rfl,uJ λq=>f q.2.2.2⟩,rfl⟩
 have v:=ua (Classical.not_not.1 t);go_enter Tryz.func64,Tryz.ntmps64;go_wp2_with (go_at_call 94;refine(vq (T 0) _ A y1).mono ?_;rintro e W ⟨⟨r,rfl,d⟩,g⟩;subst W;obtain rfl:r=true:=d.2 v;clear d);go_loopw [3] (λi wr=>∃k:Nat,k<=n/\i=.int .i64 k/\wr=w/\∀j,j<k->M.Letter (T j)\/M.Digit (T j)) (λi _=>n-(intOf i).toNat)
 case atStart=>exact⟨0,Nat.zero_le _,rfl,rfl,λj s=>absurd s (Nat.not_lt_zero _)⟩
 case round =>
  obtain⟨k,I,rfl,rfl,C⟩:=hrel;have p:=ua C;by_cases u:k<n
  ·have H:=o k u;obtain⟨l,m⟩:=x k u;by_cases z:M.Letter (T k)
   ·have f:Hid (M.Letter (T k)):=z;go_wp2_with (go_at_call 94;refine(vq (T k) _ l m).mono ?_;rintro e W ⟨⟨r,rfl,d⟩,g⟩;subst W;obtain rfl:r=true:=d.2 f;clear d);go_roundw
    case rel=>exact⟨k+1,by omega,by go_num,by trivial,λj s=>if e:j=k then e▸.inl f else p j (by omega)⟩
    case measure=>simp[intOf];omega
   have f:=ua z;by_cases y:M.Digit (T k)
   ·have h:Hid (M.Digit (T k)):=y;go_wp2_with (first|(go_at_call 94;refine(vq (T k) _ l m).mono ?_;rintro e W ⟨⟨r,rfl,d⟩,g⟩;subst W;obtain rfl:r=false:=by { cases r;rfl;exact absurd (d.1 rfl) f };clear d)|(go_at_call 95;refine(jr (T k) _ l m).mono ?_;rintro e W ⟨⟨r,rfl,d⟩,g⟩;subst W;obtain rfl:r=true:=d.2 h;clear d));go_roundw
    case rel=>exact⟨k+1,by omega,by go_num,by trivial,λj s=>if e:j=k then e▸.inr h else p j (by omega)⟩
    case measure=>simp[intOf];omega
   have h:Hid (¬M.Digit (T k)):=y;go_wp2_with (first|(go_at_call 94;refine(vq (T k) _ l m).mono ?_;rintro e W ⟨⟨r,rfl,d⟩,g⟩;subst W;obtain rfl:r=false:=by { cases r;rfl;exact absurd (d.1 rfl) f };clear d)|(go_at_call 95;refine(jr (T k) _ l m).mono ?_;rintro e W ⟨⟨r,rfl,d⟩,g⟩;subst W;obtain rfl:r=false:=by { cases r;rfl;exact absurd (d.1 rfl) h };clear d));go_ret;exact⟨⟨false,rfl,uJ λq=>(q.2.1 k u).elim f h⟩,rfl⟩
  obtain rfl:k=n:=by omega
  go_wp2;go_ret;exact⟨⟨true,rfl,xI ((uiM _ _ (by omega) (by omega) v).2 p)⟩,rfl⟩
open Go.RowKit Go.Maps
theorem upa:Keyed Tryz.prog 9:=string_keyed Tryz.underlying9
theorem ung w:(zeroValue 3).run Tryz.prog w=.ok (.int .i64 0) w:=by kernel_rfl
def ubB(g:Gr):Prop :=
 (∀i,i<g.nr->M.NameB (g.rule i).nl (g.rule i).name/\∀j,j<i->¬M.SameName (g.rule i) (g.rule j)) /\
 (∀i,i<g.nb->M.NameB (g.lab i).nl (g.lab i).name/\(0<i->M.LessName (g.lab (i-1)) (g.lab i)))
def HasNames(D:DataW Unit)(R:Nat->ue)(k:Nat):Prop:=∀l:List UInt8,(Maps.has D (.string l)=true↔∃j,j<k/\u8s (R j).nl (R j).name=l)
theorem HasNames.start R:HasNames (.map []) R 0:=λl=>⟨λh=>by simp[Maps.has]at h,λ⟨j,a,_⟩=>absurd a (Nat.not_lt_zero _)⟩
theorem HasNames.step{D:DataW Unit}{R k}(h:HasNames D R k)(b:IsMap D)(d:DataW Unit):HasNames (D.put (.string (u8s (R k).nl (R k).name)) d) R (k+1):=λl=>by
 by_cases e:u8s (R k).nl (R k).name=l
 ·subst e;rw[has_put_same b (by trivial)];exact⟨λ_=>⟨k,by omega,rfl⟩,λ_=>rfl⟩
 rw[has_put_other (by intro q;injection q with q;exact e q.symm),h l];constructor
 ·rintro⟨j,c,q⟩;exact⟨j,by omega,q⟩
 rintro⟨j,c,q⟩;refine⟨j,?_,q⟩;by_cases a:j=k
 ·subst a;exact absurd q e
 omega
theorem udO a b(c:Byt a.nl a.name)(d:Byt b.nl b.name):u8s a.nl a.name=u8s b.nl b.name↔M.SameName a b:=ui6 _ _ _ _ c d
structure urM(w:World)(y:Nat)(ra la:Option Addr)(nr rc nb lc:Nat)(R:Nat->ue)(k:Nat)(x:World):Prop where
 box0:x.cell? ⟨y,0,none⟩=some (.slice ra nr rc)
 box1:x.cell? ⟨y,1,none⟩=some (.slice la nb lc)
 map:∃D:DataW Unit,x.ownsMap Tryz.prog 9 (plainElem Tryz.prog 3) (y+1) k D/\HasNames D R k
 bel:Below w.heap.size w x
 size:y+2<=x.heap.size
def uqU(w:World)(b la:Option Addr)(nr c a lc:Nat)(R:Nat->ue)(i:Value)(wr:World):Prop :=
 ∃k:Nat,k<=nr/\i=.int .i64 (k:Int)/\urM w w.heap.size b la nr c a lc R k wr/\∀j,j<k->M.NameB (R j).nl (R j).name/\∀i,i<j->¬M.SameName (R j) (R i)
theorem kR Q P la Y lc g w(hG:GramA Q w P la g)(hs:vP g) :
  Calls Tryz.prog 73 #[.agg #[.slice P g.nr Y,.slice la g.nb lc]] w (xS (ubB g) w):=by
 obtain⟨nr,R,u,L⟩:=g;obtain⟨C,x⟩:=hG;obtain⟨h1,h2,s1,s2⟩:=hs;simp only at C x h1 h2 s1 s2 ⊢;have HR:=ua C;have HL:=ua x;have U:=ua s1;have S2:=ua s2;have a5:=@run_makeMap Tryz.prog;go_enter Tryz.func73,Tryz.ntmps73;go_wp2;go_loopw [14] (λi wr=>uqU w P la nr Y u lc R i wr) (λi _=>nr-(intOf i).toNat)
 case atStart =>
  have ha:=kF w (.slice P nr Y) (.slice la u lc) 28;refine⟨0,Nat.zero_le _,rfl,⟨uv _ ha.1,uv _ ha.2,⟨.map [],?_,HasNames.start R⟩,vb w _ _,by simp⟩,λj A=>absurd A (Nat.not_lt_zero _)⟩;have:=World.ownsMap_made (H:=Unit) (w.alloc (Obj.cells #[Value.slice P nr Y,Value.slice la u lc] 28)) Tryz.prog 9 (plainElem Tryz.prog 3);rwa [World.size_alloc]at this
 case round =>
  obtain⟨k,hk,rfl,y,ac⟩:=hrel;have HA:=ua ac;have g0:=y.box0;have g1:=y.box1;have a6:=y.size;have l0:w.heap.size<wr.heap.size:=by omega
  have l1:w.heap.size+1<wr.heap.size:=by omega
  by_cases l:k<nr
  ·have C:=HR.later y.bel;rcases C with h0|⟨b,off,rfl,hq,C⟩
   ·omega
   obtain⟨⟨a,t,V,X⟩,⟨ba,bc,c1,hb⟩⟩:=C k l;have av:=ub V;obtain⟨D,a0,ax⟩:=y.map;have aa:=ua ax;have z:=ua y.bel;have N:=(U k l).name;have v:=ua ((U k l).byt);have ap:=ua X;have aw:∀o,(convert 22 9 (.slice a (R k).nl t)).run Tryz.prog (wr.alloc o)=.ok (.string (str (R k).nl (R k).name)) (wr.alloc o):=λo=>vD Q a (R k).nl t (R k).name _ (X.later (uf wr o))
   have aj:(str (R k).nl (R k).name).size<=maxLen:=(by rw[ud8];unfold maxLen;omega);have ab:Hid ((str (R k).nl (R k).name).data.toList=u8s (R k).nl (R k).name):=jX _ _;generalize str (R k).nl (R k).name=s at aw aj ab;have ay:=Go.WideMaps.keyOf_string_mk Tryz.underlying9 aj;have G:=ua a0;have T:=ua ay;have ag:Hid (∀j,j<k->(u8s (R j).nl (R j).name=s.data.toList↔M.SameName (R k) (R j))):=λj A=>by
    rw[ab.out];exact⟨λq=>(udO _ _ v (U j (by omega)).byt).1 q.symm,λq=>((udO _ _ v (U j (by omega)).byt).2 q).symm⟩
   have hI:∀o,Ints Q .u8 (wr.alloc o) a (R k).nl (R k).name:=λo=>ap.later (uf wr o)
   have B:=ua hI;cases hh:Maps.has D (.string s.data.toList) with
   |true =>
    have Z:=ua hh;go_wp2_with (at_lookup;refine wpList_lookup_own_ok_int _ rfl _ _ 174 rfl 9 3 .i64 upa Tryz.underlying174 Tryz.underlying3 (ung _) (w.heap.size+1) k D rfl (G.alloc _) _ _ rfl T ?_;intro c J O;clear J O);go_ret;refine⟨⟨false,rfl,uJ λq=>?_⟩,ud z (uf wr _)⟩;obtain⟨j,A,e⟩:=(aa _).1 Z;exact(q.1 k l).2 j A ((ag j A).1 e)
   |false =>
    have Z:=ua hh;by_cases F:M.NameB (R k).nl (R k).name
    ·have f:Hid (M.NameB (R k).nl (R k).name):=F;go_wp2_with (first|(at_lookup;refine wpList_lookup_own_ok_int _ rfl _ _ 174 rfl 9 3 .i64 upa Tryz.underlying174 Tryz.underlying3 (ung _) (w.heap.size+1) k D rfl (G.alloc _) _ _ rfl T ?_;intro c J O;clear J O)|(go_at_call 103;refine(qq Q a (R k).nl t (R k).name _ (B _) v N).mono ?_;rintro e W ⟨⟨r,rfl,n⟩,hw⟩;subst W;obtain rfl:r=true:=n.2 f;clear n)|(at_mapUpdate;refine wpList_mapUpdate_own _ rfl _ _ _ 174 rfl 9 3 upa Tryz.underlying174 _ (w.heap.size+1) k D rfl (G.alloc _) (by unfold maxLen;omega) _ _ _ rfl rfl T _ [] (plainElem_int Tryz.underlying3 (WalkArith.wf_i64 (by omega))) ?_;intro w1 al ai;have aq:Hid _:=al;have S:Hid _:=ai;clear al ai));have bb:=(ud z (uf wr _)).grown S (by simp;omega) (λr e=>by cases e;omega);have ss:=S.size;simp only[World.size_alloc]at ss;refine⟨⟨k+1,by omega,by go_num,⟨(World.cell?_of_block (S.block w.heap.size (by simp;omega) (by simp))).trans (uv _ g0),(World.cell?_of_block (S.block w.heap.size (by simp;omega) (by simp))).trans (uv _ g1),⟨_,aq,?_⟩,bb,by omega⟩,?_⟩,by simp[intOf];omega⟩
     ·rw[ab.out];exact aa.step G.isMap _
     refine vB HA ⟨f,λi hi q=>?_⟩;have:=(aa _).2 ⟨i,hi,(ag i hi).2 q⟩;rw[Z.out]at this;cases this
    have f:Hid (¬M.NameB (R k).nl (R k).name):=F;go_wp2_with (first|(at_lookup;refine wpList_lookup_own_ok_int _ rfl _ _ 174 rfl 9 3 .i64 upa Tryz.underlying174 Tryz.underlying3 (ung _) (w.heap.size+1) k D rfl (G.alloc _) _ _ rfl T ?_;intro c J O;clear J O)|(go_at_call 103;refine(qq Q a (R k).nl t (R k).name _ (B _) v N).mono ?_;rintro e W ⟨⟨r,rfl,n⟩,hw⟩;subst W;obtain rfl:r=false:=by { cases r;rfl;exact absurd (n.1 rfl) f };clear n));go_ret;exact⟨⟨false,rfl,uJ λq=>f (q.1 k l).1⟩,ud z (uf wr _)⟩
  obtain rfl:k=nr:=by omega
  obtain⟨W1,eW⟩:=nm wr;subst wr;have ao:=ua y.bel;have HL':=ua (HL.later y.bel);go_wp2;go_loopw [43] (λi a1=>ufk W1 u (λj=>M.NameB (L j).nl (L j).name/\(0<j->M.LessName (L (j-1)) (L j))) i a1) (λi _=>u-(intOf i).toNat)
  case atStart=>exact⟨0,Nat.zero_le _,rfl,Below.refl _ _,λj A=>absurd A (Nat.not_lt_zero _)⟩
  case round =>
   obtain⟨m,hm,rfl,E,ac⟩:=hrel;have HM:=ua ac;have ae:=ua E;have z:=ua (ud ao E);have e0:=uc g0 E;have e1:=uc g1 E;have a4:=Nat.lt_of_lt_of_le l0 E.size;by_cases l:m<u
   ·have x:=HL'.later E;rcases x with h0|⟨b,off,rfl,hq,x⟩
    ·omega
    obtain⟨⟨a,t,V,X⟩,c1,⟨ba,bc,c2,hb⟩⟩:=x m l;have av:=ub V;have N:=(S2 m l).name;have v:=ua ((S2 m l).byt);have hI:∀o d,Ints Q .u8 ((wr.alloc o).drewN d) a (L m).nl (L m).name:=λo d=>X.later (below_drewN (uf wr o) d)
    have B:=ua hI;by_cases F:M.NameB (L m).nl (L m).name
    ·have f:Hid (M.NameB (L m).nl (L m).name):=F;have QN:∀o d,Calls Tryz.prog 103 #[.slice a (L m).nl t] ((wr.alloc o).drewN d) λe w'=>e=.returned (.bool true)/\w'=(wr.alloc o).drewN d:=λo d =>
      (qq Q a (L m).nl t (L m).name _ (B o d) v N).mono (λe W h=>by obtain⟨⟨r,rfl,n⟩,rfl⟩:=h;rw[n.2 F];exact⟨rfl,rfl⟩)
     have I:=ua QN;by_cases hz:m=0
     ·subst hz;simp only[Nat.zero_mul,Nat.add_zero]at V c1 c2;go_wp2_with fail;go_quiet (first|(go_at_call 103;exact Calls.quiet_of_same (I _ _)));go_wp2;go_roundw
      case rel=>exact⟨1,by omega,by go_num,ud ae (below_drewN (uf wr _) _),vB HM ⟨f,λq=>absurd q (Nat.lt_irrefl _)⟩⟩
      case measure=>simp[intOf];omega
     obtain⟨p,hp⟩:∃p,m=p+1:=⟨m-1,by omega⟩;have HP:=ua hp;have em:(m:Int)-1=(p:Int):=(by omega);have az:0<m:=(by omega);have hmp':(0:Int)<(m:Int):=(by omega);have am:p<u:=(by omega);have hpl':(p:Int)<(u:Int):=(by omega);clear hz hp;obtain⟨⟨ad,an,d0,ak⟩,d1,⟨a2,a3,d2,au⟩⟩:=x p am;have hI':∀o d,Ints Q .u8 ((wr.alloc o).drewN d) ad (L p).nl (L p).name:=λo d=>ak.later (below_drewN (uf wr o) d)
     obtain⟨r,r1,r2,r3,ah⟩:=uhH (L p).nl (L m).nl (L p).name (L m).name (S2 p am).byt v;have HC:Hid (∀o d,Calls Tryz.prog 104 #[.slice ad (L p).nl an,.slice a (L m).nl t] ((wr.alloc o).drewN d) λe w'=>e=.returned (.int .i64 r)/\w'=(wr.alloc o).drewN d):=λo d=>ah Q ad a an t _ (hI' o d) (B o d)
     have af:Hid (r<0↔M.LessName (L (m-1)) (L m)):=by
      show r<0↔M.LessName (L (m-1)) (L m);rw[show m-1=p by have:=HP.out;omega];exact r3
     clear x ak au hI' ah r3;by_cases n:r<0
     ·have hr':¬(0:Int)<=r:=(by omega);go_wp2_with fail;go_quiet (first|(go_at_call 103;exact Calls.quiet_of_same (I _ _))|(go_at_call 104;exact Calls.quiet_of_same (HC _ _)));go_wp2;go_roundw
      case rel=>exact⟨m+1,by omega,by go_num,ud ae (below_drewN (uf wr _) _),vB HM ⟨f,λ_=>af.1 n⟩⟩
      case measure=>simp[intOf];omega
     have hr':(0:Int)<=r:=(by omega);go_wp2_with fail;go_quiet (first|(go_at_call 103;exact Calls.quiet_of_same (I _ _))|(go_at_call 104;exact Calls.quiet_of_same (HC _ _)));go_wp2;go_ret;exact⟨⟨false,rfl,uJ λq=>by have:=af.2 ((q.2 m l).2 az);omega⟩,ud z (below_drewN (uf wr _) _)⟩
    have f:Hid (¬M.NameB (L m).nl (L m).name):=F;have QN:∀o d,Calls Tryz.prog 103 #[.slice a (L m).nl t] ((wr.alloc o).drewN d) λe w'=>e=.returned (.bool false)/\w'=(wr.alloc o).drewN d:=λo d =>
     (qq Q a (L m).nl t (L m).name _ (B o d) v N).mono (λe W h=>by
      obtain⟨⟨r,rfl,n⟩,rfl⟩:=h;obtain rfl:r=false:=(by { cases r;rfl;exact absurd (n.1 rfl) f });exact⟨rfl,rfl⟩)
    have I:=ua QN;go_wp2_with fail;go_quiet (first|(go_at_call 103;exact Calls.quiet_of_same (I _ _)));go_wp2;go_ret;exact⟨⟨false,rfl,uJ λq=>f (q.2 m l).1⟩,ud z (below_drewN (uf wr _) _)⟩
   obtain rfl:m=u:=(by omega);go_wp2;go_ret;exact⟨⟨true,rfl,xI ⟨HA,HM⟩⟩,z⟩
end Go.Proofs.YtpghlcdkfldlpaaGreat
