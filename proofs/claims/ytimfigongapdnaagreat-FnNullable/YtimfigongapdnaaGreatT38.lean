import Derived.Test.YtimfigongapdnaaGreatT37
import Derived.Test.YtimfigongapdnaaGreatT35
set_option linter.unusedVariables false
set_option linter.unusedSimpArgs false
set_option maxHeartbeats 40000000
set_option maxRecDepth 100000
namespace Go.Proofs.YtimfigongapdnaaGreat
open Go.RowKit
open M (OpD ug Gr)
def U(g:Gr)(i:Nat):NS:=yW g.nr (nd g i).body (nd g i).bl
theorem uge{g v x}(h:ucd g v)(c:M.Uses g.nr (nd g v).bl (nd g v).body x):x<g.nr+g.nb:=by
 obtain⟨j,a,b,rfl⟩:=c;rcases h with h|h
 ·omega
 exact unN (h.1 j a) b
theorem ua4{g}(b:M.Valid g):M.Mono (g.nr+g.nb) (vr g):=by
 refine⟨λm f h v d e=>?_⟩;have c:vr g m v=vr g (λu=>m u&&decide (u<g.nr+g.nb)) v:=M.nulB_congr _ _ _ _ _ (λu a=>by
  have:=uge (kE b d) a;simp[this])
 rw[c]at e;exact M.nulB_mono _ _ _ (λu a=>by
  simp at a;exact h u a.2 a.1) _ _ e
theorem ulx{g}(a:M.Valid g)m b x(t:x<g.nr+g.nb)(n:∀v,v<g.nr+g.nb->b v=(m v||v==x))v(q:v<g.nr+g.nb)(h:vr g b v=true)(i:vr g m v=false):(U g v).has x=true:=by
 have r:=a.r2;have s:=a.l2;have c:=kE a q;unfold U;rw[unM _ _ _ _ (by omega) (λj k o=>by
  have:=uge c ⟨j,k,o,rfl⟩;omega)]
 by_cases d:M.Uses g.nr (nd g v).bl (nd g v).body x
 ·exact d
 exfalso;have:vr g b v=vr g m v:=M.nulB_congr _ _ _ _ _ (λu f=>by
  have l:=uge c f;have p:¬u=x:=λe=>d (e▸f)
  rw[n u l];simp[p])
 rw[h,i]at this;cases this
def qR(w:World)(b o:Nat)(s:NS):World:=(((w.setCell ⟨b,o,none⟩ (.int .u64 s.a)).setCell ⟨b,o+1,none⟩ (.int .u64 s.b)).setCell ⟨b,o+2,none⟩ (.int .u64 s.c)).setCell ⟨b,o+3,none⟩ (.int .u64 s.d)
theorem uhM{w b o n t s}(h:Row w b t n)(k:o+3<n) :
  (qR w b o s).cell? ⟨b,o,none⟩=some (.int .u64 s.a)/\(qR w b o s).cell? ⟨b,o+1,none⟩=some (.int .u64 s.b)/\(qR w b o s).cell? ⟨b,o+2,none⟩=some (.int .u64 s.c)/\(qR w b o s).cell? ⟨b,o+3,none⟩=some (.int .u64 s.d):=by
 obtain⟨u0,e⟩:=h.cell (i:=o) (by omega);obtain⟨u1,f⟩:=(h.set o (.int .u64 s.a)).cell (i:=o+1) (by omega);obtain⟨u2,g⟩:=((h.set o (.int .u64 s.a)).set (o+1) (.int .u64 s.b)).cell (i:=o+2) (by omega);obtain⟨u3,j⟩:=(((h.set o (.int .u64 s.a)).set (o+1) (.int .u64 s.b)).set (o+2) (.int .u64 s.c)).cell (i:=o+3) (by omega);unfold qR;refine⟨?_,?_,?_,uu j⟩
 ·rw[um (by omega),um (by omega),um (by omega)];exact uu e
 ·rw[um (by omega),um (by omega)];exact uu f
 rw[um (by omega)];exact uu g
theorem kU{w b o j s}(h:j<o\/o+3<j):(qR w b o s).cell? ⟨b,j,none⟩=w.cell? ⟨b,j,none⟩:=by
 unfold qR;rw[um (by omega),um (by omega),um (by omega),um (by omega)]
theorem uly{w b o n t s}(h:Row w b t n):Row (qR w b o s) b t n:=(((h.set _ _).set _ _).set _ _).set _ _
theorem uhN{B w w'}(h:Below B w w')b o s(a:B<=b):Below B w (qR w' b o s):=by
 unfold qR;exact(((h.setCell (p:=⟨b,o,none⟩) a _).setCell (p:=⟨b,o+1,none⟩) a _).setCell (p:=⟨b,o+2,none⟩) a _).setCell (p:=⟨b,o+3,none⟩) a _
theorem ur2:(Tryz.prog.info? 79).map (λi=>(i.zero,i.size,i.bytes))=some (some (.agg #[.int .u64 0,.int .u64 0,.int .u64 0,.int .u64 0]),4,32):=by kernel_rfl
theorem ur3(n:Nat)(g:n<=200)w:(Instr.makeSlice 126 (.int .i64 (n:Int)) (.int .i64 (n:Int))).run Tryz.prog w=.ok (.slice (some ⟨w.heap.size,0,none⟩) n n) (w.alloc (.cells (madeCells #[.int .u64 0,.int .u64 0,.int .u64 0,.int .u64 0] (n*4)) 79)):=by
 obtain⟨i,d,b⟩:=Option.map_eq_some_iff.1 ur2;simp only[Prod.mk.injEq]at b;obtain⟨f,e,c⟩:=b;have a:=run_make (P:=Tryz.prog) w 126 79 i _ Tryz.underlying126 d f .i64 .i64 n n (by omega) (Int.le_refl _) (by rw[c];omega) (by omega);simp only[Int.toNat_natCast,e]at a;exact a
def usZ(W1:World)(a n:Nat)(g:Gr)(i:Value)(wr:World):Prop :=
 ∃k:Nat,k<=n/\i=.int .i64 (k:Int)/\Row wr a 79 (n*4)/\SetN wr a 0 k (U g)/\Below a W1 wr
structure us0(g:Gr)(w:World)(e:Ending)(w':World):Prop where
 val:∃S:NS,S.OK/\M.Least (g.nr+g.nb) (vr g) S.has/\e=.returned (.agg #[.int .u64 S.a,.int .u64 S.b,.int .u64 S.c,.int .u64 S.d])
 bel:Below w.heap.size w w'
def ubI(c la:Option Addr)(g:Gr)(d lc:Nat):Prop:=∀S:NS,S.OK->∀W a b,Caught W a b c la g.nr d g.nb lc S->ugg W g.nr g.nb S (.pointer (some ⟨a,0,none⟩)) (.pointer (some ⟨b,0,none⟩))
theorem ueu Q f la a g j lc c k w(n:OpsA Q w a (nd g k).bl (nd g k).body)(r:ucd g k)(p:(nd g k).bl<=1048576)(l:g.nr<=100)(m:g.nb<=100) :
  Calls Tryz.prog 74 #[.agg #[.slice f g.nr j,.slice la g.nb lc],.slice a (nd g k).bl c] w λe w'=>(∃t,t=U g k/\e=.returned (.agg #[.int .u64 t.a,.int .u64 t.b,.int .u64 t.c,.int .u64 t.d]))/\Below w.heap.size w w' :=
 (ues Q f la a g.nr j g.nb lc (nd g k).bl c (nd g k).body w n (λi o=>by
  rcases r with q|q
  ·omega
  exact q.1 i o) p l m).mono (λe w' h=>⟨⟨_,rfl,h.1⟩,h.2⟩)
theorem utw g i:(U g i).OK:=ukc _ _ _
theorem ubJ Q f la h lc g b n cap w(z:M.Valid g)(hs:∀p,p<g.nr+g.nb->(nd g p).bl<=1048576)(hn:g.nr+g.nb=n)(E:BodsA Q w b g n)(ad:ubI f la g h lc) :
  Calls Tryz.prog 32 #[.agg #[.slice f g.nr h,.slice la g.nb lc],.slice (some ⟨b,0,none⟩) n cap] w (us0 g w):=by
 have h1:=z.r2;have h2:=z.l2;have h0:=z.r1;have A:Hid (M.Valid g):=z;have N:Hid (∀p,p<g.nr+g.nb->(nd g p).bl<=1048576):=hs;have q:Hid (g.nr+g.nb=n):=hn;have J:=ua E;have ah:Hid (ubI f la g h lc):=ad;have G:n<=200:=by omega
 have aa:0<n:=by omega
 have am:b<w.heap.size:=by obtain⟨a,c,F,_⟩:=E 0 aa;exact ud F
 clear z hs hn E ad;have aj:=ur3 n G;go_enter Tryz.func32,Tryz.ntmps32;go_wp2;have f0:((((w.alloc (.cells #[.slice f g.nr h,.slice la g.nb lc] 28)).alloc (.cells #[.slice (some ⟨b,0,none⟩) n cap] 75)).alloc (nsc nz)).alloc (.cells (madeCells #[.int .u64 0,.int .u64 0,.int .u64 0,.int .u64 0] (n*4)) 79)).cell? ⟨w.heap.size,0,none⟩=some (.slice f g.nr h):=ue (ue (ue (cN w.heap.size rfl rfl) (ui _ _)) (ui _ _)) (ui _ _);have f1:((((w.alloc (.cells #[.slice f g.nr h,.slice la g.nb lc] 28)).alloc (.cells #[.slice (some ⟨b,0,none⟩) n cap] 75)).alloc (nsc nz)).alloc (.cells (madeCells #[.int .u64 0,.int .u64 0,.int .u64 0,.int .u64 0] (n*4)) 79)).cell? ⟨w.heap.size,1,none⟩=some (.slice la g.nb lc):=ue (ue (ue (cN w.heap.size rfl rfl) (ui _ _)) (ui _ _)) (ui _ _);have f2:((((w.alloc (.cells #[.slice f g.nr h,.slice la g.nb lc] 28)).alloc (.cells #[.slice (some ⟨b,0,none⟩) n cap] 75)).alloc (nsc nz)).alloc (.cells (madeCells #[.int .u64 0,.int .u64 0,.int .u64 0,.int .u64 0] (n*4)) 79)).cell? ⟨w.heap.size+1,0,none⟩=some (.slice (some ⟨b,0,none⟩) n cap):=ue (ue (cN (w.heap.size+1) (by simp) rfl) (ui _ _)) (ui _ _);have P:At ((((w.alloc (.cells #[.slice f g.nr h,.slice la g.nb lc] 28)).alloc (.cells #[.slice (some ⟨b,0,none⟩) n cap] 75)).alloc (nsc nz)).alloc (.cells (madeCells #[.int .u64 0,.int .u64 0,.int .u64 0,.int .u64 0] (n*4)) 79)) (w.heap.size+1+1) nz:=by
  have:=At.new ((w.alloc (.cells #[.slice f g.nr h,.slice la g.nb lc] 28)).alloc (.cells #[.slice (some ⟨b,0,none⟩) n cap] 75)) nz;rw[World.size_alloc,World.size_alloc]at this;exact this.later (ui _ _)
 have R:Row ((((w.alloc (.cells #[.slice f g.nr h,.slice la g.nb lc] 28)).alloc (.cells #[.slice (some ⟨b,0,none⟩) n cap] 75)).alloc (nsc nz)).alloc (.cells (madeCells #[.int .u64 0,.int .u64 0,.int .u64 0,.int .u64 0] (n*4)) 79)) (w.heap.size+1+1+1) 79 (n*4):=by
  have:=ul6 (((w.alloc (.cells #[.slice f g.nr h,.slice la g.nb lc] 28)).alloc (.cells #[.slice (some ⟨b,0,none⟩) n cap] 75)).alloc (nsc nz)) #[.int .u64 0,.int .u64 0,.int .u64 0,.int .u64 0] (n*4) 79 (by simp);rw[World.size_alloc,World.size_alloc,World.size_alloc]at this;exact this
 have T:Below w.heap.size w ((((w.alloc (.cells #[.slice f g.nr h,.slice la g.nb lc] 28)).alloc (.cells #[.slice (some ⟨b,0,none⟩) n cap] 75)).alloc (nsc nz)).alloc (.cells (madeCells #[.int .u64 0,.int .u64 0,.int .u64 0,.int .u64 0] (n*4)) 79)):=(udT w _ _ _).alloc (by simp;omega) _;rw[show(Obj.cells #[.int .u64 0,.int .u64 0,.int .u64 0,.int .u64 0] 79)=nsc nz from rfl];generalize (((w.alloc (.cells #[.slice f g.nr h,.slice la g.nb lc] 28)).alloc (.cells #[.slice (some ⟨b,0,none⟩) n cap] 75)).alloc (nsc nz)).alloc (.cells (madeCells #[.int .u64 0,.int .u64 0,.int .u64 0,.int .u64 0] (n*4)) 79)=W1 at *;have H5:=ua T;have H4:=ua R;have H3:=ua P;clear T R P aj;go_loopw [13] (λi wr=>usZ W1 (w.heap.size+1+1+1) n g i wr) (λi _=>n-(intOf i).toNat)
 case atStart=>exact⟨0,Nat.zero_le _,rfl,H4,λj hj=>absurd hj (Nat.not_lt_zero _),Below.refl _ _⟩
 case round =>
  obtain⟨k,hk,rfl,ab,ac,y⟩:=hrel;have Z:=H5.trans (y.mono (by omega));have g0:wr.cell? ⟨w.heap.size,0,none⟩=some (.slice f g.nr h):=(y.cell (p:=⟨w.heap.size,0,none⟩) (show w.heap.size<w.heap.size+1+1+1 by omega)).trans f0;have g1:wr.cell? ⟨w.heap.size,1,none⟩=some (.slice la g.nb lc):=(y.cell (p:=⟨w.heap.size,1,none⟩) (show w.heap.size<w.heap.size+1+1+1 by omega)).trans f1;have g2:wr.cell? ⟨w.heap.size+1,0,none⟩=some (.slice (some ⟨b,0,none⟩) n cap):=(y.cell (p:=⟨w.heap.size+1,0,none⟩) (show w.heap.size+1<w.heap.size+1+1+1 by omega)).trans f2;have V:=H3.keep (y.block _ (by omega));have L:=ua ab;have O:Hid (SetN wr (w.heap.size+1+1+1) 0 k (U g)):=ac;have af:Hid (Below (w.heap.size+1+1+1) W1 wr):=y;have D:=ua Z;have H3':=ua V;clear ab ac y Z V;by_cases ai:k<n
  ·obtain⟨a,c,F,Y⟩:=(J.later D) k ai;have al:=ud F;have HO:=ua Y;have ak:w.heap.size+1+1+1<wr.heap.size:=(by obtain⟨u,hu⟩:=L.cell (i:=0) (by omega);exact ud hu);clear Y;go_wp2_with (go_at_call 74;refine(ueu Q f la a g h lc c k _ HO.out (kE A.out (by have:=q.out;omega)) (N.out k (by have:=q.out;omega)) h1 h2).mono ?_;rintro e W ⟨⟨t,ht,rfl⟩,r⟩;have HT:Hid (t=U g k):=ht;have I:Hid (Below wr.heap.size wr W):=r;have l:Hid (Row W (w.heap.size+1+1+1) 79 (n*4)):=L.out.of_block (r.block _ ak);obtain⟨u0,r0⟩:=l.out.cell (i:=k*4) (by omega);obtain⟨u1,r1⟩:=l.out.cell (i:=k*4+1) (by omega);obtain⟨u2,r2⟩:=l.out.cell (i:=k*4+2) (by omega);obtain⟨u3,r3⟩:=l.out.cell (i:=k*4+3) (by omega);have z0:=l.out.frozen (k*4);have z1:=l.out.frozen (k*4+1);have z2:=l.frozen (k*4+2);have z3:=l.frozen (k*4+3);clear r ht);go_roundw
   case rel =>
    show usZ W1 (w.heap.size+1+1+1) n g _ (qR W (w.heap.size+1+1+1) (k*4) t);refine⟨k+1,by omega,by go_num,uly l.out,λj hj=>?_,uhN (af.out.trans (I.out.mono (by omega))) _ _ _ (Nat.le_refl _)⟩;by_cases e:j=k
    ·subst e;have:=uhM (s:=t) l.out (o:=j*4) (by omega);rw[HT.out]at this ⊢;simpa using this
    obtain⟨q0,q1,q2,q3⟩:=(O.out.later I.out) j (by omega);exact⟨(kU (by omega)).trans q0,(kU (by omega)).trans q1,(kU (by omega)).trans q2,(kU (by omega)).trans q3⟩
   case measure=>simp[intOf];omega
  obtain rfl:k=n:=by omega
  have ae:Hid (BodsA Q wr b g k):=J.later D;obtain⟨y0,y1,y2,y3⟩:=H3'.cells;obtain⟨z0,z1,z2,z3⟩:=H3'.soft;go_wp2_with fail;refine(udR (w.heap.size+1+1+1) 0 k k (U g) _ _ (vr g) _ O.out (λi _=>utw g i) aa G (q.out▸ua4 A.out) (λm m' x hx hm v hv e1 e2=>ulx A.out m m' x (by have:=q.out;omega) (λu hu=>hm u (by have:=q.out;omega)) v (by have:=q.out;omega) e1 e2)
   (λx hx S B W C=>un6 Q f la h lc g w.heap.size (w.heap.size+1) b k cap x S W (ue g0 C) (ue g1 C) (ue g2 C) (ae.out.later C) hx G (kE A.out (by have:=q.out;omega)) (N.out x (by have:=q.out;omega)) (ah.out S B))).mono ?_
  rintro e W ⟨⟨S,B,X,rfl⟩,r⟩;have BW:=ua (uf D r);have H:=ua (H3'.later r);obtain⟨an,ao,ap,aq⟩:=H.cells;obtain⟨au,av,aw,ax⟩:=H.soft;have HL:Hid (M.Least (g.nr+g.nb) (vr g) S.has):=q.out▸X;have ag:=B;clear r X B;unfold nsv;go_wp2;refine bodyPost_ret (v:=.agg #[.int .u64 S.a,.int .u64 S.b,.int .u64 S.c,.int .u64 S.d]) (by simp[results,Tryz.f32,go_sem, *]) rfl ?_;exact⟨⟨S,ag,HL,rfl⟩,ko BW (w.heap.size+1+1) S (by omega)⟩
section
open Go.RowKit
open M (OpD ug Gr)
def NIs (g la : Option Addr) (h lc nr a d e f : Nat) (mk : Nat -> Bool) (Q : Nat -> Prop) (b : Nat) (T : TR) : Prop :=
  ∀ (off c l : Nat) (w : World), l = T.n -> T.Ok (M.ElemOK nr a) -> T.n <= c -> T.n <= 2000 -> TA Q w b T off -> BoolsA w d e (nr + a) mk ->
    Calls Tryz.prog 68 #[.agg #[.slice g nr h, .slice la a lc], .slice (some ⟨b, off, none⟩) l c, .slice (some ⟨d, e, none⟩) (nr + a) f] w (ujh (T.fold (M.fN nr mk)) w)
section
variable {Q : Nat -> Prop} {ra la : Option Addr} {rc lc nr nb mb mo mc b : Nat} {mk : Nat -> Bool}
theorem ulJ (D : nr <= 100) (E : nb <= 100) (o : OpD) : NIs ra la rc lc nr nb mb mo mc mk Q b (.lf o) := by
  intro off c l w y x G I i h
  obtain ⟨g, ⟨z, A, B, p⟩, C⟩ := i
  have F := ud g
  obtain ⟨j, d⟩ := x
  have u := d.2.2.2.2.1
  have v : o.arg <= 1048576 := by have := d.2.2.2.2.2; unfold M.most at this; split at this <;> (try split at this) <;> omega
  have m : o.kind = 0 \/ o.kind = 1 \/ o.kind = 2 \/ o.kind = 3 := by have := d.1; have := d.2.1; unfold M.ar at j; split at j <;> (try split at j) <;> omega
  subst y
  simp only [TR.n] at *
  by_cases a : M.Names o
  · have s := ua a
    have r := ua (h _ (uoy d a))
    have J := uoy d a
    have H := ud r
    have L : ((M.tg nr o : Nat) : Int) < ((nr + nb : Nat) : Int) := by omega
    have f : Hid (TR.fold (M.fN nr mk) (.lf o) = mk (M.tg nr o)) := by show _ = _; rcases a with q | q <;> simp [TR.fold, M.fN, s.out, q]
    have i := ua fun (W : World) => ubP ra la z nr rc nb lc A o W a u v (by omega)
    rcases a with q | q
    all_goals
      rw [q] at g i
      clear q m d h p
      go_enter Tryz.func68, Tryz.ntmps68
      go_wp2_with (go_at_call 95; refine (i _).mono ?_; rintro e W ⟨rfl, k⟩; have N := ue (uA _ (uA _ r)) k; have t := ua k; clear k)
      go_ret
      exact ⟨xF f.out.symm, uf (uP w _ _) t⟩
  · have f : Hid (TR.fold (M.fN nr mk) (.lf o) = decide (o.kind = 0)) := by
      show _ = _
      rcases m with q | q | q | q
      · simp [TR.fold, M.fN, a, q]
      · simp [TR.fold, M.fN, q]
      · exact absurd (.inl q) a
      · exact absurd (.inr q) a
    rcases m with q | q | q | q
    · rw [q] at g f
      clear a d h p q
      go_enter Tryz.func68, Tryz.ntmps68
      go_wp2
      go_ret
      exact ⟨xF f.symm, uP w _ _⟩
    · rw [q] at g f
      clear a d h p q
      go_enter Tryz.func68, Tryz.ntmps68
      go_wp2
      go_ret
      exact ⟨xF f.symm, uP w _ _⟩
    · exact absurd (.inl q) a
    · exact absurd (.inr q) a
theorem ulK (o : OpD) (x : TR) : NIs ra la rc lc nr nb mb mo mc mk Q b (.un o x) := by
  intro off c l w f d j k i h
  obtain ⟨r, a, ⟨v, y, s, p⟩, t⟩ := i
  have u := ud a
  have e : o.kind = 6 \/ o.kind = 7 := by have := d.1; unfold M.ar at this; split at this <;> (try split at this) <;> omega
  have g : Hid (TR.fold (M.fN nr mk) (.un o x) = true) := by show _ = _; rcases e with q | q <;> simp [TR.fold, M.fN, M.Names, q]
  simp only [TR.n] at j k f
  generalize x.n = m at *
  subst f
  have z : ((m + 1 : Nat) : Int) - 1 = (m : Int) := by omega
  have A : (m : Int) < ((m + 1 : Nat) : Int) := by omega
  rcases e with q | q
  all_goals
    rw [q] at a
    clear d h p r q
    go_enter Tryz.func68, Tryz.ntmps68
    go_wp2
    go_ret
    exact ⟨xF g.symm, uP w _ _⟩
theorem ulL (o : OpD) (x y : TR) (N : NIs ra la rc lc nr nb mb mo mc mk Q b x) (O : NIs ra la rc lc nr nb mb mo mc mk Q b y) : NIs ra la rc lc nr nb mb mo mc mk Q b (.bn o x y) := by
  intro off c l w A z G I F t
  have T := ua F
  have s := ua z
  obtain ⟨J, L, f, ⟨sa, sc, D, Y⟩, E⟩ := F
  have Z := x.n0
  have ny := y.n0
  simp only [TR.n] at G I A
  obtain ⟨m, B⟩ := nm (x.n + y.n)
  rw [B] at f D E G I A
  have S := ua B
  subst A
  obtain ⟨j, h⟩ := nm x.n
  have d := ua h
  rw [h] at Z B
  have x2 : ((m + 1 : Nat) : Int) - 1 = (m : Int) := by omega
  have x3 : (m : Int) < ((m + 1 : Nat) : Int) := by omega
  have f1 : m < c := by omega
  have f2 : m <= c := by omega
  have f3 : ¬ c = 0 := by omega
  have z6 := uz m (by omega)
  have aa := ud f
  have jm : (j : Int) < (m : Int) := by omega
  have ab : (j : Int) <= (m : Int) := by omega
  have f4 : ¬ c = j := by omega
  have f5 : j <= m := by omega
  have f6 : j <= c := by omega
  have U := ua fun (W : World) (k : Below w.heap.size w W) => N off c j W d.symm s.2.2.1 (by have := d; omega) (by have := d; omega) (J.later k) (t.later k)
  have V := ua fun (W : World) (k : Below w.heap.size w W) => O (off + j * 3) (c - j) (m - j) W (by omega) s.2.2.2 (by omega) (by omega) (h ▸ L.later k) (t.later k)
  have H : o.kind = 4 \/ o.kind = 5 := by have := z.1; unfold M.ar at this; split at this <;> (try split at this) <;> omega
  have p : Hid (TR.fold (M.fN nr mk) (.bn o x y) = if o.kind = 4 then x.fold (M.fN nr mk) && y.fold (M.fN nr mk) else x.fold (M.fN nr mk) || y.fold (M.fN nr mk)) := by show _ = _; rcases H with q | q <;> simp [TR.fold, M.fN, M.Names, q]
  clear z J L Y t N O h
  generalize TR.fold (M.fN nr mk) (.bn o x y) = r at *
  generalize TR.fold (M.fN nr mk) x = u at *
  generalize TR.fold (M.fN nr mk) y = v at *
  rcases H with q | q
  all_goals
    rw [q] at f p
    clear q
    go_enter Tryz.func68, Tryz.ntmps68
    go_wp2_with fail
    refine (uaA (T.later (uP w _ _)) s S (by omega)).mono ?_
    rintro e W ⟨rfl, hw⟩
    subst W
    rw [d.out]
    go_wp2
    generalize g : (w.alloc _).alloc _ = X
    have C : Hid (Below w.heap.size w X.drew) := g ▸ (uP w _ _).drew
    have P := ua (g ▸ (ux w _ _).al _ : Box X w.heap.size #[.slice ra nr rc, .slice la nb lc])
    have xo := ua (g ▸ yG _ _ _ (w.heap.size + 1) (by simp) : Box X (w.heap.size + 1) _)
    obtain ⟨y0, y1, y2⟩ := P.x
    clear g f D E
    go_region_with (go_at_call 68; refine (V _ C).mono ?_; rintro e W2 ⟨rfl, a⟩; have i := ua (uf C a).drew; have a := (Below.refl _ X).drew.trans a; obtain ⟨u0, u1, u2⟩ := (P.on a).x; obtain ⟨z0, z1, z2⟩ := (xo.on a).x; clear a)
    cases v
    all_goals
      first
      | (go_wp2
         go_region
         go_wp2
         go_ret
         exact ⟨xF (by rw [p.out]; simp), i⟩)
      | (go_wp2
         go_region_with (go_at_call 68; refine (U _ i).mono ?_; rintro e W3 ⟨rfl, a⟩; have R := ua (uf i a); clear a)
         go_wp2
         go_ret
         exact ⟨xF (by rw [p.out]; simp), R⟩)
theorem uou (a : nr <= 100) (c : nb <= 100) (T : TR) : NIs ra la rc lc nr nb mb mo mc mk Q b T := by
  induction T with
  | lf o => exact ulJ a c o
  | un o x _ => exact ulK o x
  | bn o x y d e => exact ulL o x y d e
end
theorem uhT Q x la a nr y d lc n c B g h v mk w(l : nr <= 100)(m : d <= 100)(C : n <= 2000)(z : n <= c)(e : OpsA Q w a n B)(f : n = 0 \/ M.BodyOK nr d n B)(r : BoolsA w g h (nr + d) mk) :
    Calls Tryz.prog 68 #[.agg #[.slice x nr y, .slice la d lc], .slice a n c, .slice (some ⟨g, h, none⟩) (nr + d) v] w (ujh (M.nulB nr mk n B) w) := by
  rcases f with k | f
  · subst k
    go_enter Tryz.func68, Tryz.ntmps68
    go_wp2
    go_ret
    exact ⟨rfl, ui w _⟩
  · obtain ⟨T, s, u, p, t⟩ := ubW f
    have D := T.n0
    rcases e with q | ⟨b, o, rfl, E, e⟩
    · omega
    have := ueh (off := o) (i := 0) p (fun j A => by rw [Nat.zero_add]; exact e j (by omega))
    rw [Nat.zero_mul, Nat.add_zero] at this
    unfold M.nulB
    rw [t]
    exact uou l m T o c n w s.symm u (by omega) (by omega) this r
end
def kD(S:Nat->Bool)(m:Nat)(j:Nat):Value:=if j<m then .bool (S j) else .bool false
theorem ud9{t:TypeId}{w:World}{b n m:Nat}{S:Nat->Bool}{v:Bool}(h:w.rowIs b t n (kD S m))(hv:v=S m):(w.setCell ⟨b,m,none⟩ (.bool v)).rowIs b t n (kD S (m+1)):=by
 subst hv;refine (h.set m (.bool (S m))).congr fun i _=>?_
 unfold kD;by_cases e:i=m
 ·subst e;simp
 ·rw[if_neg e]
  by_cases e2:i<m
  ·rw[if_pos e2,if_pos (by omega)]
  ·rw[if_neg e2,if_neg (by omega)]
theorem uea{t:TypeId}{w:World}{b n:Nat}{S:Nat->Bool}(h:w.rowIs b t n (kD S n)):w.rowIs b t n (fun i=>.bool (S i)):=h.congr fun i hi=>by simp[kD,hi]
def nuO(W1:World)(B n:Nat)(F:(Nat->Bool)->Nat->Bool)(mv rv:Value)(wr:World):Prop :=
 ∃r mb:Nat,r<=n/\rv=.int .i64 (r:Int)/\mv=.slice (some ⟨mb,0,none⟩) n n/\B<mb/\wr.rowIs mb 4 n (fun i=>.bool (M.rnd F r i))/\Below (B+1) W1 wr
def nuI(W2:World)(B mb nbk n:Nat)(S:Nat->Bool)(iv:Value)(wr:World):Prop :=
 ∃k:Nat,k<=n/\iv=.int .i64 (k:Int)/\wr.rowIs nbk 4 n (kD S k)/\Below nbk W2 wr
theorem yS{w:World}{b n:Nat}{t:TypeId}{f:Nat->Value}(h:w.rowIs b t n f):b<w.heap.size:=by
 obtain⟨c,h,_⟩:=h;exact (Array.getElem?_eq_some_iff.1 h).1
theorem uhU{w:World}{b n:Nat}{t:TypeId}{S:Nat->Bool}(h:w.rowIs b t n (fun i=>.bool (S i))):BoolsA w b 0 n S:=fun i hi=>by rw[Nat.zero_add];exact h.cell hi
structure us8(g:Gr)(w:World)(e:Ending)(w':World):Prop where
 val:∃b,w.heap.size<=b/\e=.returned (.slice (some ⟨b,0,none⟩) (g.nr+g.nb) (g.nr+g.nb))/\w'.rowIs b 4 (g.nr+g.nb) (fun i=>.bool (M.rnd (vr g) (g.nr+g.nb) i))
 bel:Below w.heap.size w w'
theorem uov(Q:Nat->Prop)(ra la a:Option Addr)(nr rc nb lc n c N:Nat)(B:Nat->OpD)(mb mo mc:Nat)(mk:Nat->Bool)(w:World)(hN:nr+nb=N)(h1:nr<=100)(h2:nb<=100)(hn:n<=2000)(hc:n<=c)(hB:OpsA Q w a n B)(hok:n=0\/M.BodyOK nr nb n B)(hM:BoolsA w mb mo N mk) :
  Calls Tryz.prog 68 #[.agg #[.slice ra nr rc,.slice la nb lc],.slice a n c,.slice (some ⟨mb,mo,none⟩) N mc] w (ujh (M.nulB nr mk n B) w):=by
 subst hN;exact uhT Q ra la a nr rc nb lc n c B mb mo mc mk w h1 h2 hn hc hB hok hM
theorem ueb(Q:Nat->Prop)(ra la:Option Addr)(rc lc:Nat)(g:Gr)(w:World)(hG:GramX Q w ra la g)(hV:M.Valid g)(hs:∀p,p<g.nr+g.nb->(nd g p).bl<=2000) :
  Calls Tryz.prog 29 #[.agg #[.slice ra g.nr rc,.slice la g.nb lc]] w (us8 g w):=by
 have h1:=hV.r2;have h2:=hV.l2;have HG:Hid (GramX Q w ra la g):=hG;have HV:Hid (M.Valid g):=hV;have HS:Hid (∀p,p<g.nr+g.nb->(nd g p).bl<=2000):=hs;obtain⟨n,hn⟩:∃n,g.nr+g.nb=n:=⟨_,rfl⟩;have HN:Hid (g.nr+g.nb=n):=hn;have hn2:n<=200:=by omega
 have hmk:=run_make_row' (P:=Tryz.prog) 31 4 (.bool false) 1 Tryz.underlying31 uhQ rfl .i64 .i64 n (by omega) (by omega)
 clear hG hV hs hn;go_enter Tryz.func29,Tryz.ntmps29;go_wp2_with fail;refine (ucE ra la g.nr rc g.nb lc _ h1 h2).mono ?_;rintro e W1 ⟨rfl,hb⟩;rw[HN.out];have g0:=ue (a:=⟨w.heap.size,0,none⟩) (v:=.slice ra g.nr rc) (cN w.heap.size rfl rfl) hb;have g1:=ue (a:=⟨w.heap.size,1,none⟩) (v:=.slice la g.nb lc) (cN w.heap.size rfl rfl) hb;have B1:=ua (uf (ui w _) hb);have s1:w.heap.size<W1.heap.size:=by have:=hb.size;simp at this;omega
 clear hb;go_wp2;go_loopw [4,5] (fun mv rv wr=>nuO W1 w.heap.size n (vr g) mv rv wr) (fun _ rv _=>n-(intOf rv).toNat)
 case atStart=>exact⟨0,W1.heap.size,Nat.zero_le _,rfl,rfl,s1,(World.rowIs_made W1 _ n 4).congr fun i _=>rfl,(Below.refl _ W1).alloc (by omega) _⟩
 case round =>
  obtain⟨r,mb,hr,rfl,rfl,hmb,hrow,hbel⟩:=hrel;have hbw:=B1.trans (hbel.mono (by omega))
  have k0:wr.cell? ⟨w.heap.size,0,none⟩=some (.slice ra g.nr rc):=(hbel.cell (p:=⟨w.heap.size,0,none⟩) (Nat.lt_succ_self _)).trans g0;have k1:wr.cell? ⟨w.heap.size,1,none⟩=some (.slice la g.nb lc):=(hbel.cell (p:=⟨w.heap.size,1,none⟩) (Nat.lt_succ_self _)).trans g1;have HROW:Hid (wr.rowIs mb 4 n (fun i=>.bool (M.rnd (vr g) r i))):=hrow
  have lmb:=yS hrow;have HBW:=ua hbw;have HBE:=ua hbel;clear hrow hbel hbw;by_cases hlt:r<n
  ·obtain⟨V,eV⟩:∃V,wr=V:=⟨_,rfl⟩
   subst wr;go_wp2;have m0:(V.alloc (.cells (madeCells #[.bool false] n) 4)).cell? ⟨w.heap.size,0,none⟩=some (.slice ra g.nr rc):=uA _ k0;have m1:(V.alloc (.cells (madeCells #[.bool false] n) 4)).cell? ⟨w.heap.size,1,none⟩=some (.slice la g.nb lc):=uA _ k1;have R1:Hid ((V.alloc (.cells (madeCells #[.bool false] n) 4)).rowIs mb 4 n (fun i=>.bool (M.rnd (vr g) r i))):=HROW.out.of_block (Below.heap_alloc _ _ _ lmb)
   have R2:Hid ((V.alloc (.cells (madeCells #[.bool false] n) 4)).rowIs V.heap.size 4 n (kD (vr g (M.rnd (vr g) r)) 0)):=(World.rowIs_made V _ n 4).congr fun i _=>by simp[kD]
   have B2:Hid (Below V.heap.size V (V.alloc (.cells (madeCells #[.bool false] n) 4))):=ui V _;generalize V.alloc (.cells (madeCells #[.bool false] n) 4)=W2 at *;obtain⟨nbk,hnb⟩:∃x,V.heap.size=x:=⟨_,rfl⟩;have HNB:=ua hnb;have l2:=yS R2;rw[hnb]at l2 lmb;rw[hnb]at R2;rw[hnb];clear hnb;go_loopw [7] (fun iv wr=>nuI W2 w.heap.size mb nbk n (vr g (M.rnd (vr g) r)) iv wr) (fun iv _=>n-(intOf iv).toNat)
   case atStart=>exact⟨0,Nat.zero_le _,rfl,R2,Below.refl _ _⟩
   case round =>
    obtain⟨k,hk,rfl,hrow,hbel⟩:=hrel;have HR:Hid (wr.rowIs nbk 4 n (kD (vr g (M.rnd (vr g) r)) k)):=hrow;have HB2:=ua hbel;have lnb:=yS hrow;have j0:wr.cell? ⟨w.heap.size,0,none⟩=some (.slice ra g.nr rc):=(hbel.cell (p:=⟨w.heap.size,0,none⟩) (Nat.lt_trans hmb lmb)).trans m0;have j1:wr.cell? ⟨w.heap.size,1,none⟩=some (.slice la g.nb lc):=(hbel.cell (p:=⟨w.heap.size,1,none⟩) (Nat.lt_trans hmb lmb)).trans m1;have RM:Hid (wr.rowIs mb 4 n (fun i=>.bool (M.rnd (vr g) r i))):=R1.of_block (hbel.block mb lmb)
    have BW2:Hid (Below w.heap.size w wr):=(HBW.trans (B2.mono HBW.size)).trans (hbel.mono (by omega))
    have lw:=ud j0;clear hrow hbel;by_cases hlk:k<n
    ·have hc:=HR.cell hlk
     have hf:=HR.frozen k;go_wp2;go_region_with (first|(go_at_call 55;refine (kF Q ra la rc lc g _ (HG.out.later BW2.out.drew) h1 h2 k (by have:=HN.out;omega)).mono ?_;rintro e W3 ⟨⟨ba,bc,rfl,hO,hcap⟩,hb3⟩;have BD:Below wr.heap.size wr W3:=(Below.refl _ wr).drew.trans hb3;have i0:=ue j0 BD;have i1:=ue j1 BD;have B3:Hid (Below wr.heap.size wr W3):=BD;have HO3:Hid (OpsA Q W3 ba (nd g k).bl (nd g k).body):=hO;have HCAP:Hid ((nd g k).bl<=bc):=hcap;clear BD hb3 hO hcap)|(go_at_call 68;refine (uov Q ra la ba g.nr rc g.nb lc (nd g k).bl bc n (nd g k).body mb 0 n (M.rnd (vr g) r) _ HN.out h1 h2 (HS.out k (by have:=HN.out;omega)) HCAP.out HO3.out (kE HV.out (by have:=HN.out;omega)) (uhU (RM.out.of_block (B3.out.block mb (by omega))))).mono ?_;rintro e W4 ⟨rfl,hb4⟩;have B4:Hid (Below wr.heap.size wr W4):=uf B3.out hb4;have R4:Hid (W4.rowIs nbk 4 n (kD (vr g (M.rnd (vr g) r)) k)):=HR.out.of_block (B4.out.block nbk lnb);have hc4:=R4.out.cell hlk;have hf4:=R4.out.frozen k;clear hb4))
     all_goals go_wp2
     all_goals go_roundw
     all_goals first
      |exact⟨k+1,by omega,by go_num,ud9 R4 rfl,(HB2.trans (B4.mono (by omega))).setCell (p:=⟨nbk,k,none⟩) (Nat.le_refl _) _⟩
      | (simp[intOf];omega)
    ·obtain rfl:k=n:=by omega
     go_wp2;go_roundw
     case rel=>exact⟨r+1,nbk,by omega,by go_num,rfl,by omega,uea HR,HBE.trans ((B2.mono (by have:=HBE.size;omega)).trans (HB2.mono (by omega)))⟩
     case measure=>simp[intOf];omega
  ·obtain rfl:r=n:=by omega
   go_wp2;go_ret;exact⟨⟨mb,by omega,by rw[HN.out];rfl,by rw[HN.out];exact HROW⟩,HBW⟩
theorem uqt{g:Gr}(h:M.Sound g)(p:Nat)(hp:p<g.nr+g.nb):(nd g p).bl<=2000:=by
 unfold nd;split
 ·exact jV h (by omega)
 ·exact qT h (by omega)
theorem uow{g:Gr}(h:vF g)(p:Nat)(hp:p<g.nr+g.nb):(nd g p).bl<=1048576:=by
 unfold nd;split
 ·exact (h.rule p (by omega)).body.1
 ·exact (h.lab (p-g.nr) (by omega)).body.1
structure uox(g:Gr)(w:World)(e:Ending)(w':World):Prop where
 val:(M.Valid g/\∃b,w.heap.size<=b/\e=.returned (.slice (some ⟨b,0,none⟩) (g.nr+g.nb) (g.nr+g.nb))/\w'.rowIs b 4 (g.nr+g.nb) (fun i=>.bool (M.rnd (vr g) (g.nr+g.nb) i)))\/(¬M.Valid g/\e=.returned (.slice none 0 0))
 bel:Below w.heap.size w w'
theorem uey(Q:Nat->Prop)(ra la:Option Addr)(rc lc:Nat)(g:Gr)(w:World)(hG:GramX Q w ra la g)(hs:vF g) :
  Calls Tryz.prog 6 #[.agg #[.slice ra g.nr rc,.slice la g.nb lc]] w (uox g w):=by
 have HG:=ua hG;have HS:=ua hs;clear hG hs;go_enter Tryz.func6,Tryz.ntmps6;go_wp2_with fail;refine (jZ Q ra la rc lc g _ (HG.plain.later (ui w _)) HS).mono ?_;rintro e W1 ⟨⟨r,rfl,hr⟩,hb⟩;have g0:=ue (a:=⟨w.heap.size,0,none⟩) (v:=.slice ra g.nr rc) (cN w.heap.size rfl rfl) hb;have g1:=ue (a:=⟨w.heap.size,1,none⟩) (v:=.slice la g.nb lc) (cN w.heap.size rfl rfl) hb;have B1:=ua (uf (ui w _) hb);clear hb;cases r with
 |false =>
  have HV:Hid (¬M.Valid g):=fun q=>absurd (hr.2 q) (by decide)
  clear hr;go_wp2;go_ret;exact⟨.inr ⟨HV,rfl⟩,B1⟩
 |true =>
  have HV:=ua (hr.1 rfl);clear hr;go_wp2_with fail;refine (ueb Q ra la rc lc g _ (HG.later B1) HV (uqt HV.sound)).mono ?_;rintro e W2 ⟨⟨b,hb,rfl,hrow⟩,hbel⟩;have B2:=ua (uf B1 hbel);have HR:=ua hrow;have hs1:=B1.size;clear hbel hrow;go_wp2;go_ret;exact⟨.inl ⟨HV,b,by omega,rfl,HR⟩,B2⟩
def nlI(W1:World)(nbk n:Nat)(S:Nat->Bool)(iv:Value)(wr:World):Prop :=
 ∃k:Nat,k<=n/\iv=.int .i64 (k:Int)/\wr.rowIs nbk 4 n (kD S k)/\Below nbk W1 wr
theorem ugf(Q:Nat->Prop)(ra la:Option Addr)(rc lc:Nat)(g:Gr)(w:World)(hG:GramA Q w ra la g)(hs:vF g)(hval:M.Valid g->ubI ra la g rc lc) :
  Calls Tryz.prog 7 #[.agg #[.slice ra g.nr rc,.slice la g.nb lc]] w (uox g w):=by
 have HG:=ua hG;have HS:=ua hs;have HVAL:=ua hval;clear hG hs hval;go_enter Tryz.func7,Tryz.ntmps7;go_wp2_with fail;refine (jD Q ra la rc lc g _ (HG.later (ui w _)) HS).mono ?_;rintro e W1 ⟨⟨r,rfl,hr⟩,hb⟩;have g0:=ue (a:=⟨w.heap.size,0,none⟩) (v:=.slice ra g.nr rc) (cN w.heap.size rfl rfl) hb;have g1:=ue (a:=⟨w.heap.size,1,none⟩) (v:=.slice la g.nb lc) (cN w.heap.size rfl rfl) hb;have B1:=ua (uf (ui w _) hb);clear hb;cases r with
 |false =>
  have HV:Hid (¬M.Valid g):=fun q=>absurd (hr.2 q) (by decide)
  clear hr;go_wp2;go_ret;exact⟨.inr ⟨HV,rfl⟩,B1⟩
 |true =>
  have HV:=ua (hr.1 rfl);clear hr;have h1:=HV.r2;have h2:=HV.l2;have h0:=HV.r1;go_wp2_with fail;refine (ufp Q ra la rc lc g _ (HG.later B1) h0 h1 h2).mono ?_;rintro e W2 ⟨⟨b,cap,rfl,hB⟩,hb⟩;replace g0:=ue g0 hb;replace g1:=ue g1 hb;have B2:=ua (uf B1 hb);have HB:=ua hB;clear hb hB;obtain⟨n,hn⟩:∃n,g.nr+g.nb=n:=⟨_,rfl⟩;have HN:=ua hn;rw[hn]at HB;rw[hn];have hn2:n<=200:=by omega
  clear hn;go_wp2_with fail;refine (ubJ Q ra la rc lc g b n cap _ HV (uow HS) HN HB (HVAL HV)).mono ?_;rintro e W3 ⟨⟨S,hS,hL,rfl⟩,hb⟩;have B3:Hid (Below w.heap.size w W3):=uf B2 hb;have HSS:=hS;have hL':=HN.out▸hL;have hM:=HN.out▸ua4 HV;have HEQ:=ua (hL'.unique (M.rnd_least hM));have s3:=hb.size;have s2:=ud g0;clear hb hL hS hL' hM;have hmk:=run_make_row' (P:=Tryz.prog) 31 4 (.bool false) 1 Tryz.underlying31 uhQ rfl .i64 .i64 n (by omega) (by omega)
  have A4:Hid (At (W3.alloc (nsc S)) W3.heap.size S):=At.new W3 S;have B4:Hid (Below w.heap.size w (W3.alloc (nsc S))):=B3.out.trans ((ui W3 _).mono B3.out.size);have s4:Hid ((W3.alloc (nsc S)).heap.size=W3.heap.size+1):=by show _=_;simp
  go_wp2;rw[show (Obj.cells #[.int .u64 S.a,.int .u64 S.b,.int .u64 S.c,.int .u64 S.d] 79)=nsc S from rfl]
  have A5:Hid (At ((W3.alloc (nsc S)).alloc (.cells (madeCells #[.bool false] n) 4)) W3.heap.size S):=A4.out.later (ui _ _);have R5:Hid (((W3.alloc (nsc S)).alloc (.cells (madeCells #[.bool false] n) 4)).rowIs (W3.heap.size+1) 4 n (kD (M.rnd (vr g) n) 0)):=by
   have:=(World.rowIs_made (W3.alloc (nsc S)) (.bool false) n 4).congr (g:=kD (M.rnd (vr g) n) 0) (fun i _=>by simp[kD])
   rw[s4.out]at this;exact this
  have B5:Hid (Below w.heap.size w ((W3.alloc (nsc S)).alloc (.cells (madeCells #[.bool false] n) 4))):=B4.out.trans ((ui _ _).mono B4.out.size);generalize (W3.alloc (nsc S)).alloc (.cells (madeCells #[.bool false] n) 4)=W5 at *;obtain⟨sb,hsb⟩:=nm W3.heap.size;rw[hsb]at A5 R5;have hws:w.heap.size<=sb:=by have:=B3.size;omega
  clear A4 B4 s4 hmk;rw[hsb];clear hsb;go_loopw [20] (fun iv wr=>nlI W5 (sb+1) n (M.rnd (vr g) n) iv wr) (fun iv _=>n-(intOf iv).toNat)
  case atStart=>exact⟨0,Nat.zero_le _,rfl,R5,Below.refl _ _⟩
  case round =>
   obtain⟨k,hk,rfl,hrow,hbel⟩:=hrel;have HR:=ua hrow;have HBE:=ua hbel;have AS:=ua (A5.keep (hbel.block _ (by omega)))
   have HBW:=ua (B5.trans (hbel.mono (by omega)))
   obtain⟨m0,m1,m2,m3⟩:=AS.cells;have lr:=yS hrow;have ls:=AS.lt;clear hrow hbel;by_cases hlt:k<n
   ·go_wp2_with (go_at_call 33;refine (ub8 S k _ HSS (by omega)).mono ?_;rintro e W ⟨rfl,hb⟩;have B6:Hid (Below wr.heap.size wr W):=hb;have R6:Hid (W.rowIs (sb+1) 4 n (kD (M.rnd (vr g) n) k)):=HR.of_block (hb.block _ lr);have hc:=R6.cell hlt;have hf:=R6.frozen k;clear hb)
    go_roundw
    case rel=>exact⟨k+1,by omega,by go_num,ud9 R6 (HEQ k hlt),(HBE.trans (B6.mono (by omega))).setCell (p:=⟨sb+1,k,none⟩) (Nat.le_refl _) _⟩
    case measure=>simp[intOf];omega
   ·obtain rfl:k=n:=by omega
    go_wp2;go_ret;exact⟨.inl ⟨HV,sb+1,by omega,by rw[HN.out];rfl,by rw[HN.out];exact uea HR⟩,HBW⟩
theorem ulP w la g z lc(D:g.nr<=100)(E:g.nb<=100):ubI w la g z lc:=by
 intro S G W A B F o l h j C k i u H t I p;have J:=u.1;have L:=u.2.1;have hC':=F.later H;have c:(o.kind=0\/o.kind=1)\/(o.kind=2\/o.kind=3)\/o.kind=4\/o.kind=5\/o.kind=6\/o.kind=7:=by omega
 rcases c with c|c|c|c|c|c
 ·have a:M.ar o.kind=0:=by rcases c with q|q<;>rw[q]<;>rfl
  have d:yd g.nr S o l=uT g.nr S o default default:=by simp[yd,a]
  rw[d,a];exact up9 A B w la j C g.nr z g.nb lc k _ i S o h hC' c
 ·have a:M.ar o.kind=0:=by rcases c with q|q<;>rw[q]<;>rfl
  have d:yd g.nr S o l=uT g.nr S o default default:=by simp[yd,a]
  rw[d,a];exact uqb A B w la j C g.nr z g.nb lc k _ i S o h hC' c u G D E
 ·have a:M.ar o.kind=2:=by rw[c];rfl
  obtain⟨e,b,n,y,m,x,r,rfl,rfl,f,v⟩:=p.2 a;have d:yd g.nr S o ((n,y)::(m,x)::r)=uT g.nr S o x y:=by simp[yd,a]
  rw[d,a];exact ur6 _ _ j g.nr k e b i S o x y h c f v (t (m,x) (by simp)) (t (n,y) (by simp))
 ·have a:M.ar o.kind=2:=by rw[c];rfl
  obtain⟨e,b,n,y,m,x,r,rfl,rfl,f,v⟩:=p.2 a;have d:yd g.nr S o ((n,y)::(m,x)::r)=uT g.nr S o x y:=by simp[yd,a]
  rw[d,a];exact ur7 _ _ j g.nr k e b i S o x y h c f v (t (m,x) (by simp)) (t (n,y) (by simp))
 ·have a:M.ar o.kind=1:=by rw[c];rfl
  obtain⟨e,b,s,x,r,rfl,rfl,f⟩:=p.1 a;have d:yd g.nr S o ((s,x)::r)=uT g.nr S o x default:=by simp[yd,a]
  rw[d,a];exact uqc _ _ j g.nr k e b i S o x h c f
 have a:M.ar o.kind=1:=by rw[c];rfl
 obtain⟨e,b,s,x,r,rfl,rfl,f⟩:=p.1 a;have d:yd g.nr S o ((s,x)::r)=uT g.nr S o x default:=by simp[yd,a]
 rw[d,a];exact ur5 _ _ j g.nr k e b i S o x h c f
end Go.Proofs.YtimfigongapdnaaGreat
