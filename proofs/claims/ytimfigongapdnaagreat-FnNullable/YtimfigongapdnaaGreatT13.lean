import Derived.Test.YtimfigongapdnaaGreatT12
set_option linter.unusedVariables false
set_option linter.unusedSimpArgs false
set_option maxHeartbeats 40000000
set_option maxRecDepth 100000
namespace Go.Proofs.YtimfigongapdnaaGreat
open Go.RowKit
open M (OpD ug Gr)
theorem yA f la h nr g d lc i o w(j:0<=o.arg)(k:o.arg<=1048576)(l:nr<=1048576) :
  Calls Tryz.prog 109 #[.agg #[.slice f nr g,.slice la d lc],.agg #[.int .i64 o.kind,.slice h o.sl i,.int .i64 o.arg]] w λe w'=>e=.returned (.int .i64 (M.tg nr o:Nat))/\Below w.heap.size w w':=by
 by_cases a:o.kind=3
 ·have c:(o.kind==3)=true:=by simp[a]
  have b:=ua a;clear a;go_enter Tryz.func109,Tryz.ntmps109;go_wp2;go_ret;exact⟨uD (by unfold M.tg;rw[if_pos b.out];omega),uP w _ _⟩
 have c:(o.kind==3)=false:=by simp[a]
 have b:=ua a;clear a;go_enter Tryz.func109,Tryz.ntmps109;go_wp2;go_ret;exact⟨uD (by unfold M.tg;rw[if_neg b.out];omega),uP w _ _⟩
theorem ubF(s:NS)(p:Nat)(w:World)(g:s.OK)(f:p<256) :
  Calls Tryz.prog 108 #[.agg #[.int .u64 s.a,.int .u64 s.b,.int .u64 s.c,.int .u64 s.d],.int .i64 p] w λe w'=>(∃t,t=s.put p/\e=.returned (.agg #[.int .u64 t.a,.int .u64 t.b,.int .u64 t.c,.int .u64 t.d]))/\Below w.heap.size w w' :=
 (unZ s p w g f).mono (λe w' h=>⟨⟨_,rfl,h.1⟩,h.2⟩)
theorem ufg(s t:NS)(w:World)(f:s.OK)(g:t.OK) :
  Calls Tryz.prog 114 #[.agg #[.int .u64 s.a,.int .u64 s.b,.int .u64 s.c,.int .u64 s.d],.agg #[.int .u64 t.a,.int .u64 t.b,.int .u64 t.c,.int .u64 t.d]] w λe w'=>(∃u,u=s.join t/\e=.returned (.agg #[.int .u64 u.a,.int .u64 u.b,.int .u64 u.c,.int .u64 u.d]))/\Below w.heap.size w w' :=
 (ulw s t w f g).mono (λe w' h=>⟨⟨_,rfl,h.1⟩,h.2⟩)
def yW(nr:Nat)(B:Nat->OpD):Nat->NS
 |0=>nz
 |k+1=>if M.Names (B k) then (yW nr B k).put (M.tg nr (B k)) else yW nr B k
theorem ukc nr B k:(yW nr B k).OK:=by
 induction k with
 |zero=>exact NS.OK.zero
 |succ k a =>
  rw[yW];split
  ·exact a.put _
  exact a
theorem unM nr B k q(i:q<256)(g:∀j,j<k->M.Names (B j)->M.tg nr (B j)<256):(yW nr B k).has q=true↔M.Uses nr k B q:=by
 induction k with
 |zero=>rw[yW,unY];simp[M.Uses]
 |succ k f =>
  have f:=f (λj c=>g j (by omega));rw[yW];split
  ·rename_i d;rw[uke _ _ _ (g k (by omega) d) i];simp only[Bool.or_eq_true,f,beq_iff_eq];constructor
   ·rintro (⟨j,c,h⟩|rfl)
    ·exact⟨j,by omega,h⟩
    exact⟨k,by omega,d,rfl⟩
   rintro⟨j,c,a,b⟩;by_cases e:j=k
   ·subst e;exact .inr b.symm
   exact .inl ⟨j,by omega,a,b⟩
  rename_i d;rw[f];constructor
  ·rintro⟨j,c,h⟩;exact⟨j,by omega,h⟩
  rintro⟨j,c,a,b⟩;by_cases e:j=k
  ·subst e;exact absurd a d
  exact⟨j,by omega,a,b⟩
theorem unN{nr b o}(h:M.ElemOK nr b o)(c:M.Names o):M.tg nr o<nr+b:=by
 obtain⟨_,_,_,_,d,a⟩:=h;unfold M.tg;unfold M.most at a;rcases c with e|e
 ·rw[if_neg (by omega)];rw[if_neg (by omega),if_pos e]at a;omega
 rw[if_pos e];rw[if_pos e]at a;omega
def At(w:World)(b:Nat)(s:NS):Prop:=w.heap[b]?=some (nsc s)
theorem At.cells{w b s}(h:At w b s):w.cell? ⟨b,0,none⟩=some (.int .u64 s.a)/\w.cell? ⟨b,1,none⟩=some (.int .u64 s.b)/\w.cell? ⟨b,2,none⟩=some (.int .u64 s.c)/\w.cell? ⟨b,3,none⟩=some (.int .u64 s.d):=by
 unfold At at h;simp[World.cell?,h,nsc]
theorem At.soft{w b s}(h:At w b s):w.frozen? ⟨b,0,none⟩=false/\w.frozen? ⟨b,1,none⟩=false/\w.frozen? ⟨b,2,none⟩=false/\w.frozen? ⟨b,3,none⟩=false:=by
 unfold At at h;simp[World.frozen?,h,nsc]
theorem At.lt{w b s}(h:At w b s):b<w.heap.size:=(Array.getElem?_eq_some_iff.1 h).1
theorem At.new(w:World)(s:NS):At (w.alloc (nsc s)) w.heap.size s:=World.alloc_heap_new w (nsc s)
theorem At.later{w w' b s}(h:At w b s)(k:Below w.heap.size w w'):At w' b s:=(k.block b h.lt).trans h
theorem At.keep{w w' b s}(h:At w b s)(k:w'.heap[b]?=w.heap[b]?):At w' b s:=k.trans h
def set4(w:World)(b:Nat)(s:NS):World:=(((w.setCell ⟨b,0,none⟩ (.int .u64 s.a)).setCell ⟨b,1,none⟩ (.int .u64 s.b)).setCell ⟨b,2,none⟩ (.int .u64 s.c)).setCell ⟨b,3,none⟩ (.int .u64 s.d)
theorem uaq{w:World}{b:Nat}{cs:Array Value}{t:TypeId}(h:w.heap[b]?=some (.cells cs t))(o:Nat)(v:Value):(w.setCell ⟨b,o,none⟩ v).heap[b]?=some (.cells (cs.setIfInBounds o v) t):=by
 have a:=(Array.getElem?_eq_some_iff.1 h).1;simp[World.setCell,Array.getElem?_modify,h]
theorem At.set{w b s}(h:At w b s)t:At (set4 w b t) b t :=
 uaq (uaq (uaq (uaq h 0 (.int .u64 t.a)) 1 (.int .u64 t.b)) 2 (.int .u64 t.c)) 3 (.int .u64 t.d)
theorem ult w b s:(set4 w b s).heap.size=w.heap.size:=by simp[set4,World.setCell]
theorem ua2 w b s k(h:k≠b):(set4 w b s).heap[k]?=w.heap[k]?:=by
 unfold set4;rw[Below.heap_setCell _ _ _ k (λe=>h e),Below.heap_setCell _ _ _ k (λe=>h e),Below.heap_setCell _ _ _ k (λe=>h e),Below.heap_setCell _ _ _ k (λe=>h e)]
theorem ko{B w w'}(h:Below B w w')b s(c:B<=b):Below B w (set4 w' b s) :=
 ⟨h.os,h.tape,h.output,by rw[ult];exact h.size,λk a=>(ua2 w' b s k (by omega)).trans (h.block k a)⟩
def usV(W:World)(b nr n:Nat)(B:Nat->OpD)(i:Value)(wr:World):Prop :=
 ∃k:Nat,k<=n/\i=.int .i64 (k:Int)/\At wr b (yW nr B k)/\Below b W wr
theorem upX{nr B k}(h:¬M.Names (B k)):yW nr B (k+1)=yW nr B k:=by rw[yW,if_neg h]
theorem uhH{nr B k}(h:M.Names (B k)):yW nr B (k+1)=(yW nr B k).put (M.tg nr (B k)):=by rw[yW,if_pos h]
theorem uhI{W1 wr X W2 a b u}(c:Below b W1 wr)(d:Below wr.heap.size wr X)(e:Below X.heap.size X W2)(f:Below W2.heap.size W2 a)(g:At wr b u)t:Below b W1 (set4 a b t) :=
 ko (c.trans ((uf (uf d e) f).mono (Nat.le_of_lt g.lt))) b t (Nat.le_refl _)
theorem ues Q h la a nr j g lc n c B w(r:OpsA Q w a n B)(ad:∀i,i<n->M.ElemOK nr g (B i))(hn:n<=1048576)(h1:nr<=100)(h2:g<=100) :
  Calls Tryz.prog 74 #[.agg #[.slice h nr j,.slice la g lc],.slice a n c] w λe w'=>e=.returned (nsv (yW nr B n))/\Below w.heap.size w w':=by
 have HB:=ua r;have HK:=ua ad;clear r ad;go_enter Tryz.func74,Tryz.ntmps74;go_wp2;have U:(((w.alloc (.cells #[.slice h nr j,.slice la g lc] 28)).alloc (nsc nz)).alloc (nsc nz)).cell? ⟨w.heap.size,0,none⟩=some (.slice h nr j):=ue (ue (cN w.heap.size rfl rfl) (ui _ _)) (ui _ _);have V:(((w.alloc (.cells #[.slice h nr j,.slice la g lc] 28)).alloc (nsc nz)).alloc (nsc nz)).cell? ⟨w.heap.size,1,none⟩=some (.slice la g lc):=ue (ue (cN w.heap.size rfl rfl) (ui _ _)) (ui _ _);have z:At (((w.alloc (.cells #[.slice h nr j,.slice la g lc] 28)).alloc (nsc nz)).alloc (nsc nz)) (w.heap.size+1) nz:=by
  have:=At.new (w.alloc (.cells #[.slice h nr j,.slice la g lc] 28)) nz;rw[World.size_alloc]at this;exact this.later (ui _ _)
 have F:At (((w.alloc (.cells #[.slice h nr j,.slice la g lc] 28)).alloc (nsc nz)).alloc (nsc nz)) (w.heap.size+1+1) nz:=by
  have:=At.new ((w.alloc (.cells #[.slice h nr j,.slice la g lc] 28)).alloc (nsc nz)) nz;rw[World.size_alloc,World.size_alloc]at this;exact this
 have f4:Below w.heap.size w (((w.alloc (.cells #[.slice h nr j,.slice la g lc] 28)).alloc (nsc nz)).alloc (nsc nz)):=udT w _ _ _;have f5:(((w.alloc (.cells #[.slice h nr j,.slice la g lc] 28)).alloc (nsc nz)).alloc (nsc nz)).heap.size=w.heap.size+3:=by simp
 rw[show(Obj.cells #[.int .u64 0,.int .u64 0,.int .u64 0,.int .u64 0] 79)=nsc nz from rfl];generalize (((w.alloc (.cells #[.slice h nr j,.slice la g lc] 28)).alloc (nsc nz)).alloc (nsc nz))=W1 at *;have H4:=ua f4;clear f4;go_loopw [10] (λi wr=>usV W1 (w.heap.size+1+1) nr n B i wr) (λi _=>n-(intOf i).toNat)
 case atStart=>exact⟨0,Nat.zero_le _,rfl,F,Below.refl _ _⟩
 case round =>
  obtain⟨k,hk,rfl,A,x⟩:=hrel;have J:=H4.trans (x.mono (by omega));have g0:=(x.cell (p:=⟨w.heap.size,0,none⟩) (Nat.lt_trans (Nat.lt_succ_self _) (Nat.lt_succ_self _))).trans U;have g1:=(x.cell (p:=⟨w.heap.size,1,none⟩) (Nat.lt_trans (Nat.lt_succ_self _) (Nat.lt_succ_self _))).trans V;have I:=z.keep (x.block _ (by omega));have C:=ua A;obtain⟨u0,u1,u2,u3⟩:=A.cells;obtain⟨v0,v1,v2,v3⟩:=A.soft;have hlt':=A.lt;have ae:=ua J;have S:=ua x;by_cases ac:k<n
  ·have r:=HB.later J;rcases r with h0|⟨b,off,rfl,hq,r⟩
   ·omega
   obtain⟨c0,⟨d,f,c1,hs⟩,c2⟩:=r k ac;have a1:=ud c0;clear r hs J x A I U V z F;have G:=HK k ac;by_cases m:M.Names (B k)
   ·have H:Hid (M.Names (B k)):=m;have y:=unN G m;have aa:=G.2.2.2.2.1;have ab:(B k).arg<=1048576:=by have:=G.2.2.2.2.2;unfold M.most at this;split at this<;>(try split at this)<;>omega
    have Y:Hid (M.tg nr (B k)<256):=(by show _<_;omega);have Z:=ua (ukc nr B k);clear G y;by_cases E:(B k).kind=2
    ·have z:((B k).kind==2)=true:=(by simp[E]);clear m E;have x0:(wr.alloc (.cells #[.int .i64 (B k).kind,.slice d (B k).sl f,.int .i64 (B k).arg] 118)).cell? ⟨wr.heap.size,0,none⟩=some (.int .i64 (B k).kind):=cN wr.heap.size rfl rfl;have x1:(wr.alloc (.cells #[.int .i64 (B k).kind,.slice d (B k).sl f,.int .i64 (B k).arg] 118)).cell? ⟨wr.heap.size,1,none⟩=some (.slice d (B k).sl f):=cN wr.heap.size rfl rfl;have x2:(wr.alloc (.cells #[.int .i64 (B k).kind,.slice d (B k).sl f,.int .i64 (B k).arg] 118)).cell? ⟨wr.heap.size,2,none⟩=some (.int .i64 (B k).arg):=cN wr.heap.size rfl rfl;have ag:=uA (.cells #[.int .i64 (B k).kind,.slice d (B k).sl f,.int .i64 (B k).arg] 118) g0;have ah:=uA (.cells #[.int .i64 (B k).kind,.slice d (B k).sl f,.int .i64 (B k).arg] 118) g1;have ai:=uA (.cells #[.int .i64 (B k).kind,.slice d (B k).sl f,.int .i64 (B k).arg] 118) u0;have aj:=uA (.cells #[.int .i64 (B k).kind,.slice d (B k).sl f,.int .i64 (B k).arg] 118) u1;have ak:=uA (.cells #[.int .i64 (B k).kind,.slice d (B k).sl f,.int .i64 (B k).arg] 118) u2;have al:=uA (.cells #[.int .i64 (B k).kind,.slice d (B k).sl f,.int .i64 (B k).arg] 118) u3;have W:Hid (Below wr.heap.size wr (wr.alloc (.cells #[.int .i64 (B k).kind,.slice d (B k).sl f,.int .i64 (B k).arg] 118))):=ui wr _;have O:Hid (At (wr.alloc (.cells #[.int .i64 (B k).kind,.slice d (B k).sl f,.int .i64 (B k).arg] 118)) (w.heap.size+1+1) (yW nr B k)):=C.out.later (ui wr _);go_wp2;generalize wr.alloc (.cells #[.int .i64 (B k).kind,.slice d (B k).sl f,.int .i64 (B k).arg] 118)=X at *;go_region_with (first|(go_at_call 109;refine(yA h la d nr j g lc f (B k) _ aa ab (by omega)).mono ?_;rintro e W2 ⟨rfl,s⟩;have o:=O.out.later ((Below.refl _ X).drew.trans s);obtain⟨am,an,ao,ap⟩:=o.cells;have L:Hid (At W2 (w.heap.size+1+1) (yW nr B k)):=o;clear o;have P:Hid (Below X.heap.size X W2):=(Below.refl _ X).drew.trans s;clear s)|(go_at_call 108;refine(ubF (yW nr B k) (M.tg nr (B k)) _ Z.out Y.out).mono ?_;rintro e D ⟨⟨t,y,rfl⟩,u⟩;have T:Hid (t=(yW nr B k).put (M.tg nr (B k))):=y;clear y;have l:=L.out.later u;obtain⟨aq,au,av,aw⟩:=l.cells;obtain⟨ax,ay,az,a0⟩:=l.soft;have N:Hid (At D (w.heap.size+1+1) (yW nr B k)):=l;have af:=l.lt;clear l;have R:Hid (Below W2.heap.size W2 D):=u;clear u));all_goals go_wp2
     all_goals go_roundw
     all_goals first
      |exact⟨k+1,by omega,by go_num,by rw[uhH H.out,<-T.out];exact N.out.set t,uhI S.out W.out P.out R.out C.out t⟩
      |(simp[intOf];omega)
    have z:((B k).kind==2)=false:=(by simp[E]);have F:((B k).kind==3)=true:=(by rcases m with q|q;exact absurd q E;simp[q]);clear m E;have x0:(wr.alloc (.cells #[.int .i64 (B k).kind,.slice d (B k).sl f,.int .i64 (B k).arg] 118)).cell? ⟨wr.heap.size,0,none⟩=some (.int .i64 (B k).kind):=cN wr.heap.size rfl rfl;have x1:(wr.alloc (.cells #[.int .i64 (B k).kind,.slice d (B k).sl f,.int .i64 (B k).arg] 118)).cell? ⟨wr.heap.size,1,none⟩=some (.slice d (B k).sl f):=cN wr.heap.size rfl rfl;have x2:(wr.alloc (.cells #[.int .i64 (B k).kind,.slice d (B k).sl f,.int .i64 (B k).arg] 118)).cell? ⟨wr.heap.size,2,none⟩=some (.int .i64 (B k).arg):=cN wr.heap.size rfl rfl;have ag:=uA (.cells #[.int .i64 (B k).kind,.slice d (B k).sl f,.int .i64 (B k).arg] 118) g0;have ah:=uA (.cells #[.int .i64 (B k).kind,.slice d (B k).sl f,.int .i64 (B k).arg] 118) g1;have ai:=uA (.cells #[.int .i64 (B k).kind,.slice d (B k).sl f,.int .i64 (B k).arg] 118) u0;have aj:=uA (.cells #[.int .i64 (B k).kind,.slice d (B k).sl f,.int .i64 (B k).arg] 118) u1;have ak:=uA (.cells #[.int .i64 (B k).kind,.slice d (B k).sl f,.int .i64 (B k).arg] 118) u2;have al:=uA (.cells #[.int .i64 (B k).kind,.slice d (B k).sl f,.int .i64 (B k).arg] 118) u3;have W:Hid (Below wr.heap.size wr (wr.alloc (.cells #[.int .i64 (B k).kind,.slice d (B k).sl f,.int .i64 (B k).arg] 118))):=ui wr _;have O:Hid (At (wr.alloc (.cells #[.int .i64 (B k).kind,.slice d (B k).sl f,.int .i64 (B k).arg] 118)) (w.heap.size+1+1) (yW nr B k)):=C.out.later (ui wr _);go_wp2;generalize wr.alloc (.cells #[.int .i64 (B k).kind,.slice d (B k).sl f,.int .i64 (B k).arg] 118)=X at *;go_region_with (first|(go_at_call 109;refine(yA h la d nr j g lc f (B k) _ aa ab (by omega)).mono ?_;rintro e W2 ⟨rfl,s⟩;have o:=O.out.later ((Below.refl _ X).drew.trans s);obtain⟨am,an,ao,ap⟩:=o.cells;have L:Hid (At W2 (w.heap.size+1+1) (yW nr B k)):=o;clear o;have P:Hid (Below X.heap.size X W2):=(Below.refl _ X).drew.trans s;clear s)|(go_at_call 108;refine(ubF (yW nr B k) (M.tg nr (B k)) _ Z.out Y.out).mono ?_;rintro e D ⟨⟨t,y,rfl⟩,u⟩;have T:Hid (t=(yW nr B k).put (M.tg nr (B k))):=y;clear y;have l:=L.out.later u;obtain⟨aq,au,av,aw⟩:=l.cells;obtain⟨ax,ay,az,a0⟩:=l.soft;have N:Hid (At D (w.heap.size+1+1) (yW nr B k)):=l;have af:=l.lt;clear l;have R:Hid (Below W2.heap.size W2 D):=u;clear u));all_goals go_wp2
    all_goals go_roundw
    all_goals first
     |exact⟨k+1,by omega,by go_num,by rw[uhH H.out,<-T.out];exact N.out.set t,uhI S.out W.out P.out R.out C.out t⟩
     |(simp[intOf];omega)
   have z:((B k).kind==2)=false:=by simp;exact λq=>m (.inl q)
   have F:((B k).kind==3)=false:=by simp;exact λq=>m (.inr q)
   have H:Hid (¬M.Names (B k)):=m;clear m G;go_wp2;go_roundw
   case rel=>exact⟨k+1,by omega,by go_num,by rw[upX H.out];exact C.out.later (ui wr _),S.out.trans ((ui wr _).mono (by omega))⟩
   case measure=>simp[intOf];omega
  obtain rfl:k=n:=by omega
  obtain⟨y0,y1,y2,y3⟩:=I.cells;obtain⟨z0,z1,z2,z3⟩:=I.soft;clear J x A I U V z F;go_wp2;refine bodyPost_ret (v:=nsv (yW nr B k)) (by simp[results,Tryz.f74,go_sem,nsv, *]) rfl ?_;exact⟨rfl,ko ae.out (w.heap.size+1) (yW nr B k) (by omega)⟩
structure Opn where
 nul:Bool
 beg:NS
 loop:Bool
instance:Inhabited Opn:=⟨⟨false,nz,false⟩⟩
def opv(x:Opn):Value:=.agg #[.bool x.nul,.int .u64 x.beg.a,.int .u64 x.beg.b,.int .u64 x.beg.c,.int .u64 x.beg.d,.bool x.loop]
def opl(x:Opn):List Value:=[.bool x.nul,.int .u64 x.beg.a,.int .u64 x.beg.b,.int .u64 x.beg.c,.int .u64 x.beg.d,.bool x.loop]
def uT(nr:Nat)(mk:NS)(o:OpD)(x y:Opn):Opn :=
 if o.kind=0 then ⟨true,nz,false⟩ else if M.Names o then ⟨mk.has (M.tg nr o),nz.put (M.tg nr o),false⟩
 else if o.kind=4 then ⟨x.nul&&y.nul,if x.nul then x.beg.join y.beg else x.beg,x.loop||y.loop⟩
 else if o.kind=5 then ⟨x.nul||y.nul,x.beg.join y.beg,x.loop||y.loop⟩
 else if o.kind=6 then ⟨true,x.beg,x.nul||x.loop⟩
 else if o.kind=7 then ⟨true,x.beg,x.loop⟩
 else ⟨false,nz,false⟩
structure OpnC(w:World)(b o:Nat)(x:Opn):Prop where
 nul:w.cell? ⟨b,o,none⟩=some (.bool x.nul)
 wa:w.cell? ⟨b,o+1,none⟩=some (.int .u64 x.beg.a)
 wb:w.cell? ⟨b,o+2,none⟩=some (.int .u64 x.beg.b)
 wc:w.cell? ⟨b,o+3,none⟩=some (.int .u64 x.beg.c)
 wd:w.cell? ⟨b,o+4,none⟩=some (.int .u64 x.beg.d)
 loop:w.cell? ⟨b,o+5,none⟩=some (.bool x.loop)
theorem OpnC.later{w w' b o x}(h:OpnC w b o x)(k:Below w.heap.size w w'):OpnC w' b o x :=
 ⟨ue h.nul k,ue h.wa k,ue h.wb k,ue h.wc k,ue h.wd k,ue h.loop k⟩
structure Caught(w:World)(gb mb:Nat)(ra la:Option Addr)(nr rc nb lc:Nat)(mk:NS):Prop where
 g0:w.cell? ⟨gb,0,none⟩=some (.slice ra nr rc)
 g1:w.cell? ⟨gb,1,none⟩=some (.slice la nb lc)
 m:At w mb mk
theorem Caught.later{w w' a b d la nr e c lc mk}(h:Caught w a b d la nr e c lc mk)(k:Below w.heap.size w w'):Caught w' a b d la nr e c lc mk :=
 ⟨ue h.g0 k,ue h.g1 k,h.m.later k⟩
def qS(v:Opn)(w:World)(e:Ending)(w':World):Prop:=e=.returned (opv v)/\Below w.heap.size w w'
theorem uc1{n l a b c d x}(e:n=x.nul)(f:a=x.beg.a)(g:b=x.beg.b)(h:c=x.beg.c)(i:d=x.beg.d)(j:l=x.loop) :
  Ending.returned (.agg #[.bool n,.int .u64 a,.int .u64 b,.int .u64 c,.int .u64 d,.bool l])=.returned (opv x):=by
 rw[e,f,g,h,i,j];rfl
def qt(x:Opn):Obj:=.cells #[.bool x.nul,.int .u64 x.beg.a,.int .u64 x.beg.b,.int .u64 x.beg.c,.int .u64 x.beg.d,.bool x.loop] 130
def At6(w:World)(b:Nat)(x:Opn):Prop:=w.heap[b]?=some (qt x)
theorem At6.cells{w b x}(h:At6 w b x):w.cell? ⟨b,0,none⟩=some (.bool x.nul)/\w.cell? ⟨b,1,none⟩=some (.int .u64 x.beg.a)/\w.cell? ⟨b,2,none⟩=some (.int .u64 x.beg.b)/\w.cell? ⟨b,3,none⟩=some (.int .u64 x.beg.c)/\w.cell? ⟨b,4,none⟩=some (.int .u64 x.beg.d)/\w.cell? ⟨b,5,none⟩=some (.bool x.loop):=by
 unfold At6 at h;simp[World.cell?,h,qt]
theorem At6.soft{w b x}(h:At6 w b x):w.frozen? ⟨b,0,none⟩=false/\w.frozen? ⟨b,1,none⟩=false/\w.frozen? ⟨b,2,none⟩=false/\w.frozen? ⟨b,3,none⟩=false/\w.frozen? ⟨b,4,none⟩=false/\w.frozen? ⟨b,5,none⟩=false:=by
 unfold At6 at h;simp[World.frozen?,h,qt]
theorem At6.lt{w b x}(h:At6 w b x):b<w.heap.size:=(Array.getElem?_eq_some_iff.1 h).1
theorem At6.new(w:World)(x:Opn):At6 (w.alloc (qt x)) w.heap.size x:=World.alloc_heap_new w (qt x)
theorem At6.later{w w' b x}(h:At6 w b x)(k:Below w.heap.size w w'):At6 w' b x:=(k.block b h.lt).trans h
def set6(w:World)(b:Nat)(x:Opn):World:=(((((w.setCell ⟨b,0,none⟩ (.bool x.nul)).setCell ⟨b,1,none⟩ (.int .u64 x.beg.a)).setCell ⟨b,2,none⟩ (.int .u64 x.beg.b)).setCell ⟨b,3,none⟩ (.int .u64 x.beg.c)).setCell ⟨b,4,none⟩ (.int .u64 x.beg.d)).setCell ⟨b,5,none⟩ (.bool x.loop)
theorem ua5{B w w'}(h:Below B w w')b x(a:B<=b):Below B w (set6 w' b x):=by
 unfold set6;exact(((((h.setCell (p:=⟨b,0,none⟩) a _).setCell (p:=⟨b,1,none⟩) a _).setCell (p:=⟨b,2,none⟩) a _).setCell (p:=⟨b,3,none⟩) a _).setCell (p:=⟨b,4,none⟩) a _).setCell (p:=⟨b,5,none⟩) a _
def oz:Opn:=⟨false,nz,false⟩
theorem up9 c d j la l h nr k g lc m ol i mk o w(v:Caught w c d j la nr k g lc mk)(a:o.kind=0\/o.kind=1) :
  Calls Tryz.prog 113 #[.agg #[.int .i64 o.kind,.slice l o.sl m,.int .i64 o.arg],.slice h ol i,.pointer (some ⟨c,0,none⟩),.pointer (some ⟨d,0,none⟩)] w (qS (uT nr mk o default default) w):=by
 have f:¬M.Names o:=by rintro (q|q)<;>omega
 rcases a with a|a
 ·have b:Hid (o.kind=0):=a;have e:(o.kind==0)=true:=by simp[a]
  clear a;go_enter Tryz.func113,Tryz.ntmps113;go_wp2;refine bodyPost_ret (by simp[results,Tryz.f113,go_sem];rfl) rfl ?_;refine⟨uc1 ?_ ?_ ?_ ?_ ?_ ?_,uP w _ _⟩<;>simp[uT,b.out,nz]
 have b:Hid (o.kind=1):=a;have e:(o.kind==0)=false:=by simp[a]
 have n:(o.kind==2)=false:=by simp[a]
 have p:(o.kind==3)=false:=by simp[a]
 have r:(o.kind==4)=false:=by simp[a]
 have s:(o.kind==5)=false:=by simp[a]
 have t:(o.kind==6)=false:=by simp[a]
 have u:(o.kind==7)=false:=by simp[a]
 clear a;go_enter Tryz.func113,Tryz.ntmps113;go_wp2;refine bodyPost_ret (by simp[results,Tryz.f113,go_sem];rfl) rfl ?_;refine⟨uc1 ?_ ?_ ?_ ?_ ?_ ?_,uP w _ _⟩<;>simp[uT,b.out,nz,f]
theorem uqa(s:NS)(p:Nat)(w:World)(g:s.OK)(f:p<256) :
  Calls Tryz.prog 33 #[.agg #[.int .u64 s.a,.int .u64 s.b,.int .u64 s.c,.int .u64 s.d],.int .i64 p] w λe w'=>(∃r,r=s.has p/\e=.returned (.bool r))/\Below w.heap.size w w' :=
 (ukf s p w g f).mono (λe w' h=>⟨⟨_,rfl,h.1⟩,by rw[h.2];exact ui w _⟩)
theorem ulA(p:Nat)w(f:p<256) :
  Calls Tryz.prog 108 #[.agg #[.int .u64 0,.int .u64 0,.int .u64 0,.int .u64 0],.int .i64 p] w λe w'=>(∃t,t=nz.put p/\e=.returned (.agg #[.int .u64 t.a,.int .u64 t.b,.int .u64 t.c,.int .u64 t.d]))/\Below w.heap.size w w' :=
 ubF nz p w NS.OK.zero f
theorem uqb x C D la g U nr E f lc h ol V mk o w(b:Caught w x C D la nr E f lc mk)(a:M.Names o)(c:M.ElemOK nr f o)(A:mk.OK)(Z:nr<=100)(h2:f<=100) :
  Calls Tryz.prog 113 #[.agg #[.int .i64 o.kind,.slice g o.sl h,.int .i64 o.arg],.slice U ol V,.pointer (some ⟨x,0,none⟩),.pointer (some ⟨C,0,none⟩)] w (qS (uT nr mk o default default) w):=by
 have I:=ua a;have d:=unN c a;have Q:=c.2.2.2.2.1;have R:o.arg<=1048576:=by have:=c.2.2.2.2.2;unfold M.most at this;split at this<;>(try split at this)<;>omega
 have p:Hid (M.tg nr o<256):=by show _<_;omega
 have H:=A;have n:Hid (¬o.kind=0):=by rcases a with q|q<;>(show ¬_;omega)
 have X:(o.kind==0)=false:=by simp;exact n
 have G:=ua b;have u:=b.g0;have P:=b.g1;have aa:=ud u;have S:Hid (uT nr mk o default default=⟨mk.has (M.tg nr o),nz.put (M.tg nr o),false⟩):=by show _=_;simp[uT,n.out,I.out]
 have T:(o.kind==2)=true\/((o.kind==2)=false/\(o.kind==3)=true):=by
  rcases a with q|q
  ·left;simp[q]
  right;simp[q]
 clear c A b d a;rcases T with O|⟨O,Y⟩;all_goals (
  go_enter Tryz.func113,Tryz.ntmps113;go_wp2_with fail;have l:Hid (At6 ((w.alloc (.cells #[.int .i64 o.kind,.slice g o.sl h,.int .i64 o.arg] 118)).alloc (qt oz)) (w.heap.size+1) oz):=by
   have:=At6.new (w.alloc (.cells #[.int .i64 o.kind,.slice g o.sl h,.int .i64 o.arg] 118)) oz;rw[World.size_alloc]at this;exact this
  refine(yA D la g nr E f lc h o _ Q R (by omega)).mono ?_;rintro e W ⟨rfl,j⟩;have s:=ua (uf (uP w _ _) j);obtain⟨m0,m1,m2,m3⟩:=(G.m.later s).cells;have k:=ua (l.later j);clear j u P l;go_wp2_with (first|(go_at_call 33;refine(uqa mk (M.tg nr o) _ H p).mono ?_;rintro e W2 ⟨⟨r,B,rfl⟩,y⟩;have J:Hid (r=mk.has (M.tg nr o)):=B;have F:Hid (Below W.heap.size W W2):=y;clear B y)|(go_at_call 108;refine(ulA (M.tg nr o) _ p).mono ?_;rintro e N ⟨⟨t,d,rfl⟩,z⟩;have L:Hid (t=nz.put (M.tg nr o)):=d;have i:Hid (Below W.heap.size W N):=uf F z;clear d z;obtain⟨z0,z1,z2,z3,z4,z5⟩:=(k.later i).cells;obtain⟨s0,s1,s2,s3,s4,s5⟩:=(k.later i).soft));refine bodyPost_ret (v:=opv ⟨r,t,false⟩) (by simp[results,Tryz.f113,go_sem,opv, *]) rfl ?_;exact⟨by rw[S.out,J.out,L.out],ua5 (uf s i) (w.heap.size+1) ⟨r,t,false⟩ (by omega)⟩)
theorem uqx{P:Program}{ops:Array Oper}{o:Oper}{a:Act}{w:World}{K:Act->World->Prop}{g:Exit->Act->World->Prop}{E:Prop}{f:FuncId}(j:∀args w,(callFunc f args).run P w=.ok (.enter f args) w)(k:o.guard=none)(c b d:Operand)(s t:TypeId)
  (m:o.op=.call { callee:=.value c,args:=#[b,d],argTypes:=#[s,t] }) {y1 y2 p1 p2:Value} (i:a.eval c=.func (.func f) #[] #[p1,p2]) (q:a.eval b=y1) (r:a.eval d=y2) (h:Calls P f #[y1,y2,p1,p2] w (λe w'=>∃u,e=.returned u/\K (a.put o.dst u) w')):if Region.wanted o (yielded ops a.tmps)=true then Oper.wp P o a w K g else E:=by
 have p:Region.wanted o (yielded ops a.tmps)=true:=by simp[Region.wanted,k]
 rw[if_pos p];have n:(execOp a.eval o).run P w=.ok (.enter f #[y1,y2,p1,p2]) w:=by
  unfold execOp;simp only[m,resolve,invoke,Deferred.ofValue,Sem.run_bind,Sem.run_pure,Result.andThen_ok,List.map_toArray,List.map_cons,List.map_nil,q,r,i];exact j #[y1,y2,p1,p2] w
 unfold Oper.wp;rw[n];refine Calls.mono h ?_;rintro e w' ⟨u,rfl,l⟩;exact l
def kK:List (Nat×Opn)->List Value
 |[]=>opl oz
 |(_,v)::r=>kK r++opl v
theorem ubT x:(opl x).length=6:=rfl
theorem jA l:(kK l).length=(l.length+1)*6:=by
 induction l with
 |nil=>rfl
 |cons p r a=>rw[kK,List.length_append,a,ubT];simp only[List.length_cons];omega
theorem ugq{w g cs pre post x}(h:∀j,j<cs.length->w.cell? ⟨g,j,none⟩=cs[j]?)(e:cs=pre++(opl x++post)):OpnC w g pre.length x:=by
 have a:∀j v,(opl x)[j]?=some v->w.cell? ⟨g,pre.length+j,none⟩=some v:=λj v b=>by
  have c:j<6:=by
   have:=(List.getElem?_eq_some_iff.1 b).1;simpa[ubT] using this
  rw[h _ (by rw[e];simp[ubT];omega),e,List.getElem?_append_right (by omega),show pre.length+j-pre.length=j by omega,List.getElem?_append_left (by rw[ubT];exact c),b]
 exact⟨a 0 _ rfl,a 1 _ rfl,a 2 _ rfl,a 3 _ rfl,a 4 _ rfl,a 5 _ rfl⟩
theorem uqy{Q w g cap n m cs pre post}(h:OwnC Q w (.slice (some ⟨g,0,none⟩) n cap) 6 n cs)(e:cs=pre++post)(f:pre.length=m*6)(r:m<=n)(l:0<n):OwnC Q w (.slice (some ⟨g,0,none⟩) m cap) 6 m pre:=by
 rcases h with⟨q,_⟩|⟨k,i,q,a,o,p,b,c⟩
 ·cases q
 cases q;refine .inr ⟨g,cap,rfl,a,f,by omega,λj d=>?_,c⟩;rw[b j (by rw[e,List.length_append];omega),e,List.getElem?_append_left d]
def yd(nr:Nat)(mk:NS)(o:OpD)(l:List (Nat×Opn)):Opn :=
 if M.ar o.kind=2 then match l with|(_,y)::(_,x)::_=>uT nr mk o x y|_=>default
 else if M.ar o.kind=1 then match l with|(_,x)::_=>uT nr mk o x default|_=>default
 else uT nr mk o default default
theorem uss nr mk o i l(h:M.ar o.kind<=(l.length:Int)):∃s,M.stp (uT nr mk) o i l=(s,yd nr mk o l)::l.drop (M.ar o.kind).toNat:=by
 unfold M.stp yd;rcases M.ar_cases o.kind with a|a|a
 ·simp[a]
 ·rw[a]at h;match l with
  |[]=>simp at h
  |(s,x)::r=>exact⟨s,by simp[a]⟩
 rw[a]at h;match l with
 |[]=>simp at h
 |[(s,x)]=>simp at h
 |(s2,y)::(s1,x)::r=>exact⟨s1,by simp[a]⟩
theorem ugr nr mk o x y(a:x.beg.OK)(b:y.beg.OK):(uT nr mk o x y).beg.OK:=by
 unfold uT;split
 ·exact NS.OK.zero
 split
 ·exact NS.OK.zero.put _
 split
 ·split
  ·exact a.join b
  exact a
 split
 ·exact a.join b
 split
 ·exact a
 split
 ·exact a
 exact NS.OK.zero
theorem uoF nr mk o l(h:∀p,p∈l->p.2.beg.OK):(yd nr mk o l).beg.OK:=by
 have d:(default:Opn).beg.OK:=NS.OK.zero;unfold yd;split
 ·match l with
  |[]=>exact d
  |[_]=>exact d
  |(s2,y)::(s1,x)::r=>exact ugr _ _ _ _ _ (h (s1,x) (by simp)) (h (s2,y) (by simp))
 split
 ·match l with
  |[]=>exact d
  |(s1,x)::r=>exact ugr _ _ _ _ _ (h (s1,x) (by simp)) d
 exact ugr _ _ _ _ _ d d
end Go.Proofs.YtimfigongapdnaaGreat
