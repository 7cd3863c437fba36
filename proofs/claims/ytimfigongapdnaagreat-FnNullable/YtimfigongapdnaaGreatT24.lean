import Derived.Test.YtimfigongapdnaaGreatT23
set_option linter.unusedVariables false
set_option linter.unusedSimpArgs false
set_option maxHeartbeats 40000000
set_option maxRecDepth 100000
namespace Go.Proofs.YtimfigongapdnaaGreat
open Go.RowKit
open M (OpD ug Gr ur EX ins uH yu)
theorem ucI b o n c T w Q(u:∀i,i<n->OpC Q w b (o+i*3) (T i))(F:n<=1048576)(B:n<=c)s(G:s<n)(r:M.dep T s+1=M.dep T n)(t:∀j,s<j->j<=n->M.dep T n<=M.dep T j) :
  Calls Tryz.prog 116 #[.slice (some ⟨b,o,none⟩) n c] w λp w'=>p=.returned (.tuple #[.slice (some ⟨b,o,none⟩) s c,.slice (some ⟨b,o+s*3,none⟩) (n-s) (c-s)])/\Below w.heap.size w w':=by
 have l:=ua u;have g:=ua r;have h:=ua t;go_enter Tryz.func116,Tryz.ntmps116;go_wp2;go_loopw [5,4] (λd i wr=>uoz w T s n d i wr) (λd i _=>(intOf i).toNat)
 case atStart=>exact⟨n,by omega,Nat.le_refl _,yT (by omega),rfl,rfl⟩
 case round =>
  obtain⟨k,E,a,rfl,rfl,rfl⟩:=hrel;by_cases v:s<k
  ·have C:=h k v a;have D:=uhV T k n a;obtain⟨q,rfl⟩:∃q,k=q+1:=⟨k-1,by omega⟩;obtain⟨x,⟨J,L,y,H⟩,z⟩:=l q (by omega);have A:=M.ar_bd (T q).kind;have m:Hid (M.dep T (q+1)=M.dep T q+(1-M.ar (T q).kind)):=rfl;have N:(0:Int)<((q+1:Nat):Int):=(by omega);have f:(0:Int)<1-M.dep T n+M.dep T (q+1):=(by omega);have O:((q+1:Nat):Int)-1=(q:Int):=(by omega);have P:(q:Int)<n:=(by omega);go_wp2_with (go_at_call 145;refine(yU _ _).mono ?_;rintro e W ⟨rfl,I⟩;subst W);go_roundw
   case rel=>exact⟨q,by omega,by omega,yT (by have:=m.out;omega),by first|rfl|go_num,by trivial⟩
   case measure=>simp[intOf]<;>omega
  obtain rfl:k=s:=by omega
  have f:1-M.dep T n+M.dep T k=0:=by have:=g;omega
  have R:¬c=k:=by omega
  have S:k<=n:=by omega
  have U:k<=c:=by omega
  have V:¬c=0:=by omega
  have X:(k:Int)<=(n:Int):=by omega
  have Y:=uz k (by omega);rw[f];go_wp2;go_region;all_goals go_wp2
  all_goals refine bodyPost_ret (by simp[results,Tryz.f116,go_sem];rfl) rfl ?_
  all_goals exact⟨rfl,(Below.refl _ _).drew⟩
def usy(w0:World)(a:Nat)(u0 u1:Value)(L:List IC)(b:List Int)(x:EX)(e:Ending)(w':World):Prop :=
 (∃v,e=.returned v)/\∃K:List IC,K.map IC.d=uH (λn=>(n:Int)) x L.length/\CS w0 a u0 u1 (L++K) [] b w'
theorem ujq{K:List IC}{r:Nat->Int}{x:EX}{p:Nat}(h:K.map IC.d=uH r x p):K.length=x.len:=by
 rw[<-List.length_map (f:=IC.d),h,M.emit_len]
theorem ugz(args:Array Value)(w:World):(callFunc 109 args).run Tryz.prog w=.ok (.enter 109 args) w:=by
 simp[callFunc,Tryz.func109,Tryz.f109,go_sem]
theorem ufr(args:Array Value)(w:World):(callFunc 34 args).run Tryz.prog w=.ok (.enter 34 args) w:=by
 simp[callFunc,Tryz.func34,Tryz.f34,go_sem]
theorem ubd w0 b u0 u1 l c w k a t(h:CS w0 b u0 u1 l [] c w)(i:l.length<=200000) :
  Calls Tryz.prog 34 #[.pointer (some ⟨b,0,none⟩),.agg #[.int .i64 k,.int .i64 a,.int .i64 t,.slice none 0 0]] w λe w'=>e=.returned (.int .i64 (l.length:Int))/\Hid (CS w0 b u0 u1 (l++[ic k a t]) [] c w'):=by
 obtain⟨P,F,S,j,d,h⟩:=h.plain k a t;refine(uh8 w0 b u0 u1 l (ic k a t) c w P F S j d h i).mono ?_;rintro e w' ⟨rfl,f,m,g⟩;exact⟨rfl,f,F,S,m,d,g⟩
theorem uoM w0 b u0 u1 l f w x(h:CS w0 b u0 u1 l [x] f w)(k:l.length<=200000) :
  Calls Tryz.prog 34 #[.pointer (some ⟨b,0,none⟩),.agg #[.int .i64 x.d.kind,.int .i64 x.d.arg,.int .i64 x.d.to,.slice x.a x.d.sl x.c]] w λe w'=>e=.returned (.int .i64 (l.length:Int))/\Hid (CS w0 b u0 u1 (l++[x]) [] f w'):=by
 obtain⟨P,F,S,m,g,h⟩:=h;refine(uh8 w0 b u0 u1 l x f w P F S m g h k).mono ?_;rintro e w' ⟨rfl,i,n,j⟩;exact⟨rfl,i,F,S,n,g,j⟩
section
open Go.RowKit
open M (OpD ug Gr ur EX ins uH yu)
theorem uoK{L a b:List IC}{x y:IC}{n:Nat}(h:a.length=n):(L++x::(a++[y])++b)[L.length+1+n]? = some y:=by
  subst h;rw[List.append_assoc,List.getElem?_append_right (by omega),show L.length+1+a.length-L.length=a.length+1 by omega]
  simp
theorem uoL{L b c x n k a t d}(h:b.length=n):(L++x::(b++[ic k a t])++c).set (L.length+1+n) (toI (ic k a t) d)=L++(x::(b++ic k a d::c)):=by
  subst h;rw[List.append_assoc,List.set_append_right _ _ (by omega),show L.length+1+b.length-L.length=b.length+1 by omega]
  congr 1
  simp[toI,ic,ins]
variable {w0 w:World} {cb:Nat} {Q:Nat->Prop} {ra la:Option Addr} {rc lc:Nat} {g:Gr} {b:Nat} {u0 u1:Value} {L:List IC} {fl:List Int} {P:Ending->World->Prop} {x y:TR} {o:OpD}
def emN(x:EX)(n:Nat):List ur:=uH (fun n=>(n:Int)) x n
def PX(w0:World)(a:Nat)(Q:Nat->Prop)(f la:Option Addr)(h lc:Nat)(g:Gr)(b:Nat)(T:TR):Prop :=
  ∀(off c l n:Nat) (L:List IC) (e:List Int) (w:World) (P:Ending->World->Prop),l=T.n->L.length=n->T.Ok (M.ElemOK g.nr g.nb)->T.n<=c->T.n<=2000->TA Q w0 b T off->CS w0 a (.slice f g.nr h) (.slice la g.nb lc) L [] e w->n+(T.fold (M.nodeE g.nr)).len<=100000 ->
    (∀v K W,K.map IC.d=emN (T.fold (M.nodeE g.nr)) n->CS w0 a (.slice f g.nr h) (.slice la g.nb lc) (L++K) [] e W->P (.returned v) W)->Calls Tryz.prog 78 #[.pointer (some ⟨a,0,none⟩),.slice (some ⟨b,off,none⟩) l c] w P
theorem ubc{K:List IC}{x:EX}{p:Nat}(h:K.map IC.d=emN x p):K.length=x.len:=ujq h
theorem ugy{n:Nat}(k a t:Int)(h:CS w0 cb u0 u1 L [] fl w)(c:L.length=n)(b:n<=200000)(d:∀W,CS w0 cb u0 u1 (L++[ic k a t]) [] fl W->P (.returned (.int .i64 (n:Int))) W) :
    Calls Tryz.prog 34 #[.pointer (some ⟨cb,0,none⟩),.agg #[.int .i64 k,.int .i64 a,.int .i64 t,.slice none 0 0]] w P:=by
  subst c;exact (ubd w0 cb u0 u1 L fl w k a t h b).mono (by rintro e W ⟨rfl,h⟩;exact d W h.out)
theorem uaC{off c m:Nat}{E:OpD->Prop}(h:TA Q w b (.bn o x y) off)(l:(TR.bn o x y).Ok E)(p:x.n+y.n=m)(t:m<=2000)(k:m<=c) :
    Calls Tryz.prog 116 #[.slice (some ⟨b,off,none⟩) m c] w fun g w'=>g=.returned (.tuple #[.slice (some ⟨b,off,none⟩) x.n c,.slice (some ⟨b,off+x.n*3,none⟩) (m-x.n) (c-x.n)])/\Below w.heap.size w w':=by
  subst p;obtain⟨f,a,q⟩:=ucj (.bn o x y) (TR.bn o x y).get 0 (fun j s=>by rw[Nat.zero_add])
  obtain⟨d,e⟩:=uck y _ l.2.2.2 a;rw[Nat.zero_add]at d e;have u:=y.n0;exact ucI b off (x.n+y.n) c (TR.bn o x y).get w Q (fun i r=>qd h i (by simp only[TR.n];omega)) (by omega) k x.n (by omega) d.symm (fun j f a=>by have:=e j f a;omega)
theorem uqY(ix:PX w0 cb Q ra la rc lc g b x)(iy:PX w0 cb Q ra la rc lc g b y):PX w0 cb Q ra la rc lc g b (.bn o x y):=by
  intro off c l n L q w P Y p H hc hn hT G hp aa;have NX:=ua aa;have R:=ua ix;have S:=ua iy;have HT:=ua hT;have E:=ua H;have a:=ua p;obtain⟨Z,hy,U⟩:=hT;obtain⟨F,⟨sa,sc,c1,ac⟩,c2⟩:=U.later G.bel;have HX:=ua Z;have HY:=ua hy;have nx:=x.n0;have ny:=y.n0;simp only[TR.n]at hc hn Y;obtain⟨m,I⟩:=nm (x.n+y.n);rw[I]at F c1 c2 hc hn Y;have j:=ua I;subst Y;have x2:((m+1:Nat):Int)-1=(m:Int):=by omega
  have x3:(m:Int)<((m+1:Nat):Int):=by omega
  have x5:(m:Int)<=((m+1:Nat):Int):=by omega
  have z6:=uz m (by omega)
  have f1:m<c:=by omega
  have f2:m<=c:=by omega
  have f3:¬c=0:=by omega
  have ad:b<w.heap.size:=ud F;have d:o.kind=4\/o.kind=5:=by have:=H.1;unfold M.ar at this;split at this<;>(try split at this)<;>omega
  obtain⟨f,v⟩:=nm (x.fold (M.nodeE g.nr)).len;obtain⟨yl,u⟩:=nm (y.fold (M.nodeE g.nr)).len;have s:=ua v;have O:=ua u;have JX:=ua fun (L:List IC) (n:Nat) (W:World) (P:Ending->World->Prop) (p:L.length=n) (C:CS w0 cb (.slice ra g.nr rc) (.slice la g.nb lc) L [] q W) (h:n+f<=100000)=>R.out off c x.n n L q W P rfl p E.out.2.2.1 (by have:=j.out;omega) (by have:=j.out;omega) HX.out C (by have:=s.out;omega)
  have JY:=ua fun (L:List IC) (n:Nat) (W:World) (P:Ending->World->Prop) (p:L.length=n) (C:CS w0 cb (.slice ra g.nr rc) (.slice la g.nb lc) L [] q W) (h:n+yl<=100000)=>S.out (off+x.n*3) (c-x.n) (m-x.n) n L q W P (by have:=j.out;omega) p E.out.2.2.2 (by have:=j.out;omega) (by have:=j.out;omega) HY.out C (by have:=O.out;omega)
  have z:=ua (fun o:Obj=>G.later ((Below.refl _ w).drew.trans (ui w.drew o)))
  rcases d with d | d
  · have e:TR.fold (M.nodeE g.nr) (.bn o x y)=.seq (x.fold (M.nodeE g.nr)) (y.fold (M.nodeE g.nr)):=by simp[TR.fold,M.nodeE,d]
    have N:=ua e;rw[e,EX.len,v,u]at hp;rw[d]at F;clear d e Z hy U ac H G aa ix iy v u p I R S;go_enter Tryz.func78,Tryz.ntmps78;go_wp2;go_region;all_goals go_wp2_with fail
    all_goals
      refine (uaC (HT.out.later (z.out _).bel) E.out j.out (by omega) f2).mono ?_
      rintro e W1 ⟨rfl,t⟩;have A:=(z.out _).later t;clear t;go_wp2_with fail;refine JX.out L n W1 _ a.out A (by omega) fun v2 K2 W2 h2 B=>?_
      have H2:=ua h2;clear h2;go_wp2_with fail;refine JY.out (L++K2) (n+f) W2 _ (by rw[List.length_append,a.out,ubc H2.out,s.out]) B (by omega) fun v3 k W3 r D=>?_
      have J:=ua r;clear r;go_wp2;go_end0;exact NX.out _ (K2++k) _ (by rw[N.out,emN,uH,List.map_append,H2.out,J.out,s.out];rfl) (by rw[<-List.append_assoc];exact D)
  · have e:TR.fold (M.nodeE g.nr) (.bn o x y)=.alt (x.fold (M.nodeE g.nr)) (y.fold (M.nodeE g.nr)):=by simp[TR.fold,M.nodeE,d]
    have N:=ua e;rw[e,EX.len,v,u]at hp;rw[d]at F;clear d e Z hy U ac H G aa ix iy v u p I R S;go_enter Tryz.func78,Tryz.ntmps78;go_wp2;go_region;all_goals go_wp2_with fail
    all_goals
      refine (uaC (HT.out.later (z.out _).bel) E.out j.out (by omega) f2).mono ?_
      rintro e W1 ⟨rfl,t⟩;have A:=(z.out _).later t;clear t;go_wp2_with fail;refine ugy 1 0 0 A a.out (by omega) fun W2 B=>?_
      go_wp2_with fail;refine JX.out _ (n+1) W2 _ (by simp[a.out]) B (by omega) fun v3 k W3 r D=>?_
      have J:=ua r;have i:=ua ((ubc r).trans s.out);clear r;go_wp2_with fail;refine ugy (n:=n+1+f) 2 0 0 D (by simp[a.out,i.out];omega) (by omega) fun W4 C4=>?_
      go_wp2_with fail;refine (ucT w0 cb _ _ _ q W4 n (ic 1 0 0) C4 (by simp[a.out]) (by simp[a.out,i.out];omega)).mono ?_
      rintro e W5 ⟨⟨v5,rfl⟩,V⟩;rw[show (L++[ic 1 0 0]++k++[ic 2 0 0]).set n (toI (ic 1 0 0) ((L++[ic 1 0 0]++k++[ic 2 0 0]).length:Int))=L++ic 1 0 ((n+f+2:Nat):Int)::(k++[ic 2 0 0]) by rw[show ((L++[ic 1 0 0]++k++[ic 2 0 0]).length:Int)=((n+f+2:Nat):Int) by simp[a.out,i.out];omega,<-a.out];simp[toI,ic,ins]]at V
      go_wp2_with fail;refine JY.out _ (n+f+2) W5 _ (by simp[a.out,i.out];omega) V (by omega) fun v6 K6 W6 T C6=>?_
      have H6:=ua T;have ab:=ua ((ubc T).trans O.out);clear T;go_wp2_with fail;refine (ucT w0 cb _ _ _ q W6 (n+1+f) (ic 2 0 0) C6 (by rw[<-a.out];exact uoK i.out) (by simp[a.out,i.out,ab.out];omega)).mono ?_
      rintro e W7 ⟨⟨v7,rfl⟩,X⟩;rw[show ((L++ic 1 0 ((n+f+2:Nat):Int)::(k++[ic 2 0 0])++K6).length:Int)=((n+f+yl+2:Nat):Int) by simp[a.out,i.out,ab.out];omega,<-a.out,uoL i.out,a.out]at X
      have C7:=ua X;clear V X A B D C4 C6;go_wp2;go_end0;exact NX.out _ _ _ (by rw[N.out,emN,uH,List.map_cons,List.map_append,List.map_cons,J.out,H6.out,s.out,O.out];rfl) C7.out
theorem uqZ(R:PX w0 cb Q ra la rc lc g b x):PX w0 cb Q ra la rc lc g b (.un o x):=by
  intro off c l n L z w P N u B X Y hT A Z S;have V:=ua S;have I:=ua R;have HK:=ua B;have a:=ua u;obtain⟨O,J⟩:=hT;obtain⟨y,⟨sa,sc,c1,aa⟩,c2⟩:=J.later A.bel;have HX:=ua O;simp only[TR.n]at X Y N;obtain⟨m,D⟩:=nm x.n;rw[D]at y c1 c2 X Y N;have H:=ua D;subst N;have x2:((m+1:Nat):Int)-1=(m:Int):=by omega
  have x3:(m:Int)<((m+1:Nat):Int):=by omega
  have x5:(m:Int)<=((m+1:Nat):Int):=by omega
  have z6:=uz m (by omega)
  have f1:m<c:=by omega
  have f2:m<=c:=by omega
  have f3:¬c=0:=by omega
  have ab:b<w.heap.size:=ud y;have f:o.kind=6\/o.kind=7:=by have:=B.1;unfold M.ar at this;split at this<;>(try split at this)<;>omega
  obtain⟨p,v⟩:=nm (x.fold (M.nodeE g.nr)).len;have t:=ua v;have U:=ua fun (L:List IC) (n:Nat) (W:World) (P:Ending->World->Prop) (u:L.length=n) (C:CS w0 cb (.slice ra g.nr rc) (.slice la g.nb lc) L [] z W) (h:n+p<=100000)=>I.out off c m n L z W P H.out.symm u HK.out.2.2 (by have:=H.out;omega) (by have:=H.out;omega) HX.out C (by have:=t.out;omega)
  have T:=ua (fun o:Obj=>A.later ((Below.refl _ w).drew.trans (ui w.drew o)))
  rcases f with f | f
  · have e:TR.fold (M.nodeE g.nr) (.un o x)=.star (x.fold (M.nodeE g.nr)):=by simp[TR.fold,M.nodeE,f]
    have G:=ua e;rw[e,EX.len,v]at Z;rw[f]at y;clear f e O J aa B A S R v u D I;go_enter Tryz.func78,Tryz.ntmps78;go_wp2;go_region;all_goals go_wp2_with fail
    all_goals
      refine ugy 1 0 0 (T.out _) a.out (by omega) fun W2 q=>?_
      go_wp2_with fail;refine U.out _ (n+1) W2 _ (by simp[a.out]) q (by omega) fun v3 d W3 j r=>?_
      have F:=ua j;have i:=ua ((ubc j).trans t.out);clear j;go_wp2_with fail;refine ugy (n:=n+1+p) 3 0 ((n:Int)+1) r (by simp[a.out,i.out];omega) (by omega) fun W4 s=>?_
      go_wp2_with fail;refine (ucT w0 cb _ _ _ z W4 n (ic 1 0 0) s (by simp[a.out]) (by simp[a.out,i.out];omega)).mono ?_
      rintro e W5 ⟨⟨v5,rfl⟩,k⟩;rw[show (L++[ic 1 0 0]++d++[ic 3 0 ((n:Int)+1)]).set n (toI (ic 1 0 0) ((L++[ic 1 0 0]++d++[ic 3 0 ((n:Int)+1)]).length:Int))=L++ic 1 0 ((n+p+2:Nat):Int)::(d++[ic 3 0 ((n:Int)+1)]) by rw[show ((L++[ic 1 0 0]++d++[ic 3 0 ((n:Int)+1)]).length:Int)=((n+p+2:Nat):Int) by simp[a.out,i.out];omega,<-a.out];simp[toI,ic,ins]]at k
      have E:=ua k;clear k q r s;go_wp2;go_end0;exact V.out _ _ _ (by rw[G.out,emN,uH,List.map_cons,List.map_append,F.out,t.out];rfl) E.out
  · have e:TR.fold (M.nodeE g.nr) (.un o x)=.not (x.fold (M.nodeE g.nr)):=by simp[TR.fold,M.nodeE,f]
    have G:=ua e;rw[e,EX.len,v]at Z;rw[f]at y;clear f e O J aa B A S R v u D I;go_enter Tryz.func78,Tryz.ntmps78;go_wp2;go_region;all_goals go_wp2_with fail
    all_goals
      refine ugy 4 0 0 (T.out _) a.out (by omega) fun W2 q=>?_
      go_wp2_with fail;refine U.out _ (n+1) W2 _ (by simp[a.out]) q (by omega) fun v3 d W3 j r=>?_
      have F:=ua j;have i:=ua ((ubc j).trans t.out);clear j;go_wp2_with fail;refine ugy (n:=n+1+p) 5 0 (0) r (by simp[a.out,i.out];omega) (by omega) fun W4 s=>?_
      go_wp2_with fail;refine (ucT w0 cb _ _ _ z W4 n (ic 4 0 0) s (by simp[a.out]) (by simp[a.out,i.out];omega)).mono ?_
      rintro e W5 ⟨⟨v5,rfl⟩,k⟩;rw[show (L++[ic 4 0 0]++d++[ic 5 0 (0)]).set n (toI (ic 4 0 0) ((L++[ic 4 0 0]++d++[ic 5 0 (0)]).length:Int))=L++ic 4 0 ((n+p+2:Nat):Int)::(d++[ic 5 0 (0)]) by rw[show ((L++[ic 4 0 0]++d++[ic 5 0 (0)]).length:Int)=((n+p+2:Nat):Int) by simp[a.out,i.out];omega,<-a.out];simp[toI,ic,ins]]at k
      have E:=ua k;clear k q r s;go_wp2;go_end0;exact V.out _ _ _ (by rw[G.out,emN,uH,List.map_cons,List.map_append,F.out,t.out];rfl) E.out
theorem uq0(h1:g.nr<=100)(h2:g.nb<=100):PX w0 cb Q ra la rc lc g b (.lf o):=by
  intro off c l n L R w P hl hL hk hc hn hT D hp ac;have C:=ua ac;have I:=ua hL;simp only[TR.n]at hc hn hl;subst hl;obtain⟨A,⟨k,m,c1,ab⟩,c2⟩:=OpC.later hT D.bel;have HS:=ua ab;have HC:=ua D;have f1:0<c:=hc;have f3:¬c=0:=by omega
  have ag:b<w.heap.size:=ud A;obtain⟨E,d⟩:=hk;have a:o.kind=0\/o.kind=1\/o.kind=2\/o.kind=3:=by have:=d.1;have:=d.2.1;unfold M.ar at E;split at E<;>(try split at E)<;>omega
  have f:=d.2.2.2.2.2;have G:=d.2.2.2.2.1;have ah:n<=100000:=by omega
  have Z:=ua (fun o:Obj=>D.later ((Below.refl _ w).drew.trans (ui w.drew o)))
  clear ab D E hT ac hL hp;rcases a with a | a | a | a
  · have r:Hid (TR.fold (M.nodeE g.nr) (.lf o)=.empty):=by show _=_;simp[TR.fold,M.nodeE,a]
    rw[a]at A;clear a f d;go_enter Tryz.func78,Tryz.ntmps78;go_wp2;go_region;all_goals go_wp2
    all_goals go_end0
    all_goals exact C.out _ [] _ (by rw[r.out];rfl) (by rw[List.append_nil];exact Z.out _)
  · have r:Hid (TR.fold (M.nodeE g.nr) (.lf o)=.set o.sl o.set):=by show _=_;simp[TR.fold,M.nodeE,a]
    have ae:o.sl<=1048576:=by have:=uhS (d.2.2.1 a);omega
    rw[a]at A;clear a f d;go_enter Tryz.func78,Tryz.ntmps78;go_wp2;go_region;all_goals go_wp2_with fail
    all_goals
      refine (uc3 Q k o.sl m o.set _ (HS.out.later ((Below.refl _ w).drew.trans (ui w.drew _))) ae).mono ?_;rintro e W1 ⟨⟨N,O,rfl,hI⟩,hb,aa⟩;have ad:=ua ((Z.out _).fresh hb ⟨⟨0,0,0,o.sl,o.set⟩,N,O⟩ hI aa);clear hI hb aa;go_wp2_with fail;refine (uoM w0 cb _ _ L R W1 ⟨⟨0,0,0,o.sl,o.set⟩,N,O⟩ ad.out (by have:=I.out;omega)).mono ?_
      rintro e W2 ⟨rfl,y⟩;go_wp2;go_end0;exact C.out _ [⟨⟨0,0,0,o.sl,o.set⟩,N,O⟩] _ (by rw[r.out];rfl) y.out
  · obtain⟨j,i⟩:=ubV d
    obtain⟨p,u⟩:=nm (M.tg g.nr o);have J:=ua u;have B:o.arg<=1048576:=by unfold M.most at f;split at f<;>(try split at f)<;>omega
    have r:Hid (emN (TR.fold (M.nodeE g.nr) (.lf o)) n = [ins 6 0 p]):=by
      show _=_;rw[<-u];simp[TR.fold,M.nodeE,a,i,emN,uH,M.tg]
    have z:=ua (yA ra la k g.nr rc g.nb lc m o · G B (by omega))
    rw[a,i]at z;rw[a]at A;rw[i]at c2;clear a d i f G B u;go_enter Tryz.func78,Tryz.ntmps78;go_wp2;go_region;all_goals go_wp2_with fail
    all_goals
      generalize s:w.alloc _=X;have q:Hid (CS w0 cb (.slice ra g.nr rc) (.slice la g.nb lc) L [] R X):=s▸HC.out.later (ui w _);have v:Box X w.heap.size #[.int .i64 2,.slice k o.sl m,.int .i64 j]:=s▸ux w _ _;clear s;have T:X.cell? ⟨cb,0,none⟩=some (.slice ra g.nr rc):=by obtain⟨P,F,S,V,U,h⟩:=q.out;exact h.g0
      have g1:X.cell? ⟨cb,1,none⟩=some (.slice la g.nb lc):=by obtain⟨P,F,S,V,U,h⟩:=q.out;exact h.g1
      have af:=ud T;have Y:X.cell? ⟨w.heap.size,0,none⟩=some (.int .i64 2):=v.x.1 0;have xs:X.cell? ⟨w.heap.size,1,none⟩=some (.slice k o.sl m):=v.x.1 1;have W:X.cell? ⟨w.heap.size,2,none⟩=some (.int .i64 j):=v.x.1 2;have lx:=ud Y;go_region_law (first
        | (refine yk ugz rfl (.tmp 41) (.tmp 42) 28 118 rfl (y1:=.agg #[.slice ra g.nr rc,.slice la g.nb lc]) (y2:=.agg #[.int .i64 2,.slice k o.sl m,.int .i64 j]) (by simp[Act.eval,Act.put]) (by simp[Act.eval,Act.put]) ((z.out X.drew.drew).mono ?_)
           rintro e W2 ⟨rfl,t⟩;rw[J.out];have y:=ua (q.out.later ((Below.refl _ X).drew.drew.trans t));have u2:=ue W ((Below.refl _ X).drew.drew.trans t);clear t;refine⟨_,rfl,?_⟩)
        | (refine yk ufr rfl (.tmp 37) (.tmp 44) 133 86 rfl (y1:=.pointer (some ⟨cb,0,none⟩)) (y2:=.agg #[.int .i64 6,.int .i64 0,.int .i64 p,.slice none 0 0]) (by simp[Act.eval,Act.put]) (by simp[Act.eval,Act.put]) (ugy 6 0 p y.out I.out (by omega) fun W3 H=>⟨_,rfl,?_⟩)))
      all_goals go_goals
      all_goals go_wp2
      all_goals go_end0
      all_goals exact C.out _ [ic 6 0 p] _ r.out.symm H
  · obtain⟨j,i⟩:=ubV d
    obtain⟨p,u⟩:=nm (M.tg g.nr o);have J:=ua u;have B:o.arg<=1048576:=by unfold M.most at f;split at f<;>(try split at f)<;>omega
    have r:Hid (emN (TR.fold (M.nodeE g.nr) (.lf o)) n = [ins 8 j p]):=by
      show _=_;rw[<-u];simp[TR.fold,M.nodeE,a,i,emN,uH,M.tg]
    have z:=ua (yA ra la k g.nr rc g.nb lc m o · G B (by omega))
    rw[a,i]at z;rw[a]at A;rw[i]at c2;clear a d i f G B u;go_enter Tryz.func78,Tryz.ntmps78;go_wp2;go_region;all_goals go_wp2_with fail
    all_goals
      generalize s:w.alloc _=X;have q:Hid (CS w0 cb (.slice ra g.nr rc) (.slice la g.nb lc) L [] R X):=s▸HC.out.later (ui w _);have v:Box X w.heap.size #[.int .i64 3,.slice k o.sl m,.int .i64 j]:=s▸ux w _ _;clear s;have T:X.cell? ⟨cb,0,none⟩=some (.slice ra g.nr rc):=by obtain⟨P,F,S,V,U,h⟩:=q.out;exact h.g0
      have g1:X.cell? ⟨cb,1,none⟩=some (.slice la g.nb lc):=by obtain⟨P,F,S,V,U,h⟩:=q.out;exact h.g1
      have af:=ud T;have Y:X.cell? ⟨w.heap.size,0,none⟩=some (.int .i64 3):=v.x.1 0;have xs:X.cell? ⟨w.heap.size,1,none⟩=some (.slice k o.sl m):=v.x.1 1;have W:X.cell? ⟨w.heap.size,2,none⟩=some (.int .i64 j):=v.x.1 2;have lx:=ud Y;go_region_law (first
        | (refine yk ugz rfl (.tmp 54) (.tmp 55) 28 118 rfl (y1:=.agg #[.slice ra g.nr rc,.slice la g.nb lc]) (y2:=.agg #[.int .i64 3,.slice k o.sl m,.int .i64 j]) (by simp[Act.eval,Act.put]) (by simp[Act.eval,Act.put]) ((z.out X.drew.drew).mono ?_)
           rintro e W2 ⟨rfl,t⟩;rw[J.out];have y:=ua (q.out.later ((Below.refl _ X).drew.drew.trans t));have u2:=ue W ((Below.refl _ X).drew.drew.trans t);clear t;refine⟨_,rfl,?_⟩)
        | (refine yk ufr rfl (.tmp 48) (.tmp 57) 133 86 rfl (y1:=.pointer (some ⟨cb,0,none⟩)) (y2:=.agg #[.int .i64 8,.int .i64 j,.int .i64 p,.slice none 0 0]) (by simp[Act.eval,Act.put]) (by simp[Act.eval,Act.put]) (ugy 8 j p y.out I.out (by omega) fun W3 H=>⟨_,rfl,?_⟩)))
      all_goals go_goals
      all_goals go_wp2
      all_goals go_end0
      all_goals exact C.out _ [ic 8 j p] _ r.out.symm H
theorem usx(a:g.nr<=100)(c:g.nb<=100)(T:TR):PX w0 cb Q ra la rc lc g b T:=by
  induction T with
  |lf o=>exact uq0 a c
  |un o x d=>exact uqZ d
  |bn o x y e f=>exact uqY e f
end
theorem ulW (w0 : World) (d : Nat) (Q : Nat->Prop) (l la a : Option Addr) (m lc n c : Nat) (g : Gr) (p : g.nr<=100) (r : g.nb<=100) (B : Nat->OpD) (x : n<=2000) (t : n<=c) (i : M.BodyOK g.nr g.nb n B) (h : OpsA Q w0 a n B) (L : List IC) (f : List Int) (w : World)
    (s:CS w0 d (.slice l g.nr m) (.slice la g.nb lc) L [] f w) (D:L.length<=50000) :
    Calls Tryz.prog 78 #[.pointer (some ⟨d,0,none⟩),.slice a n c] w (usy w0 d (.slice l g.nr m) (.slice la g.nb lc) L f (M.treeE g.nr n B)):=by
  have o:¬ n=0:=fun q=>by
    have:=i.2.2
    rw [q,M.dep] at this
    omega
  rcases h with q | ⟨b,off,rfl,F,h⟩
  · exact absurd q o
  have E:=jz i
  have G:=M.wsum_bd B n
  obtain ⟨T,rfl,y,z,A⟩:=ubW i
  have k:=ueh (Q:=Q) (w:=w0) (b:=b) (off:=off) z (fun j u=>by rw [Nat.zero_add];exact h j u)
  rw [Nat.zero_mul,Nat.add_zero] at k
  rw [M.treeE,A] at *
  exact usx p r T off c _ _ L f w _ rfl rfl y t x k s (by omega) (fun v K W e C=>⟨⟨v,rfl⟩,K,e,C⟩)
theorem ugA (w : World) (z : Int) : Src Tryz.prog 1 36 (.slice (some ⟨w.heap.size,0,none⟩) 1 1) 1 [.int .i64 z] (w.alloc (.cells #[.int .i64 z] 3)):=by
  refine Src.ofSlice (P:=Tryz.prog) _ Tryz.underlying36 ⟨w.heap.size,0,none⟩ 1 1 [.int .i64 z] rfl (fun j u a=>?_) (fun u a=>?_)
  · match j,a with
    | 0,a=>simp at a;subst a;simp [Addr.add]
    | j+1,a=>simp at a
  · simp at a
    subst a
    rfl
theorem ucl (w0 : World) (b : Nat) (Q : Nat->Prop) (l la a : Option Addr) (m lc n c : Nat) (g : Gr) (u : g.nr<=100) (j : g.nb<=100) (B : Nat->OpD) (hn : n<=2000) (hc : n<=c) (G : M.BodyOK g.nr g.nb n B) (O : OpsA Q w0 a n B) (L : List IC) (h : List Int) (k z : Int) (w : World)
    (x:CS w0 b (.slice l g.nr m) (.slice la g.nb lc) L [] h w) (hL:L.length<=40000) (ae:h.length<=40000) :
    Calls Tryz.prog 35 #[.pointer (some ⟨b,0,none⟩),.agg #[.int .i64 k,.int .i64 z,.int .i64 0,.slice none 0 0],.slice a n c] w fun e w'=>(∃ v,e = .returned v)/\∃ K:List IC,K.map IC.d=M.nodeC (fun n=>(n:Int)) (ins k z 0) (M.treeE g.nr n B) L.length/\CS w0 b (.slice l g.nr m) (.slice la g.nb lc) (L ++ K) [] (h ++ [(L.length:Int)]) w':=by
  have ab:Hid (M.BodyOK g.nr g.nb n B):=G
  have HB:Hid (OpsA Q w0 a n B):=O
  have HC:Hid (CS w0 b (.slice l g.nr m) (.slice la g.nb lc) L [] h w):=x
  have J:Hid ((M.treeE g.nr n B).len<=4000):=by
    show _<=_
    have:=M.wsum_bd B n
    rw [jz G]
    omega
  have x0:(w.alloc (.cells #[.int .i64 k,.int .i64 z,.int .i64 0,.slice none 0 0] 86)).cell? ⟨w.heap.size,0,none⟩=some (.int .i64 k):=cN w.heap.size rfl rfl
  have x1:(w.alloc (.cells #[.int .i64 k,.int .i64 z,.int .i64 0,.slice none 0 0] 86)).cell? ⟨w.heap.size,1,none⟩=some (.int .i64 z):=cN w.heap.size rfl rfl
  have x2:(w.alloc (.cells #[.int .i64 k,.int .i64 z,.int .i64 0,.slice none 0 0] 86)).cell? ⟨w.heap.size,2,none⟩=some (.int .i64 0):=cN w.heap.size rfl rfl
  have x3:(w.alloc (.cells #[.int .i64 k,.int .i64 z,.int .i64 0,.slice none 0 0] 86)).cell? ⟨w.heap.size,3,none⟩=some (.slice none 0 0):=cN w.heap.size rfl rfl
  obtain ⟨P,F,S,U,vf,A⟩:=(x.plain k z 0).later (ui w (.cells #[.int .i64 k,.int .i64 z,.int .i64 0,.slice none 0 0] 86))
  obtain ⟨p,r,rfl⟩:=uk A.ownf
  have t:Hid (CP w0 b (.slice l g.nr m) (.slice la g.nb lc) L [ic k z 0] h (w.alloc (.cells #[.int .i64 k,.int .i64 z,.int .i64 0,.slice none 0 0] 86)) P F S U (.slice p h.length r)):=A
  clear G O x A
  go_enter Tryz.func35,Tryz.ntmps35
  go_wp2
  generalize w.alloc (.cells #[.int .i64 k,.int .i64 z,.int .i64 0,.slice none 0 0] 86)=X at *
  have f3:=t.out.f
  have af:=t.out.cb0.2
  have lx:=ud x0
  go_region_law (first
    | (refine yk ufr rfl (.tmp 11) (.tmp 12) 133 86 rfl (y1:=.pointer (some ⟨b,0,none⟩)) (y2:=.agg #[.int .i64 k,.int .i64 z,.int .i64 0,.slice none 0 0]) (by simp [Act.eval,Act.put]) (by simp [Act.eval,Act.put]) ((uh8 w0 b _ _ L (ic k z 0) h X.drew P F S U (.slice p h.length r) (t.out.later (Below.refl _ X).drew) (by omega)).mono ?_)
       rintro e W2 ⟨rfl,P2,ad,j⟩
       have o:Hid (CP w0 b (.slice l g.nr m) (.slice la g.nb lc) (L ++ [ic k z 0]) [] h W2 P2 F S ad (.slice p h.length r)):=j
       have u3:=j.f
       have ag:=j.cb0.2
       clear j
       refine ⟨_,rfl,?_⟩)
    | (refine ujp rfl (.tmp 10) (.tmp 14) 36 36 rfl (v:=.slice p h.length r) (y:=.slice (some ⟨W2.heap.size,0,none⟩) 1 1) (by simp [Act.eval,Act.put]) (by simp [Act.eval,Act.put]) elem36 (o.out.later (ui W2 (.cells #[.int .i64 (L.length:Int)] 3))).ownf (ugA W2 (L.length:Int)) (by omega) (fun _=>Nat.one_pos) ?_
       intro v' W4 H D ac
       have T:=(o.out.later (ui W2 (.cells #[.int .i64 (L.length:Int)] 3))).putF H D
       have C:W4.heap[b]? = (W2.alloc (.cells #[.int .i64 (L.length:Int)] 3)).heap[b]?:=D.block b (o.out.later (ui W2 (.cells #[.int .i64 (L.length:Int)] 3))).cb0.2 (fun q=>((o.out.later (ui W2 (.cells #[.int .i64 (L.length:Int)] 3))).rf b q).2.2.1 rfl)
       have r2:W4.cell? ⟨b,3,none⟩=some (.slice p h.length r):=(World.cell?_of_block (a:=⟨b,3,none⟩) C).trans (o.out.later (ui W2 (.cells #[.int .i64 (L.length:Int)] 3))).f
       have r3:W4.frozen? ⟨b,3,none⟩=false:=(World.frozen?_of_block (a:=⟨b,3,none⟩) C).trans ((o.out.later (ui W2 (.cells #[.int .i64 (L.length:Int)] 3))).soft 3)
       obtain ⟨a4,c4,rfl⟩:=uk H
       have V:Hid (CS w0 b (.slice l g.nr m) (.slice la g.nb lc) (L ++ [ic k z 0]) [] (h ++ [(L.length:Int)]) (W4.setCell ⟨b,3,none⟩ (.slice a4 (h.length+1) c4))):=T
       clear H D ac T C))
  all_goals go_goals
  all_goals (
    have s:Hid ((L ++ [ic k z 0]).length=L.length+1):=by show _=_;simp
    go_wp2_with fail
    refine (ulW w0 b Q l la a m lc n c g u j B hn hc ab.out HB.out (L ++ [ic k z 0]) (h ++ [(L.length:Int)]) _ V.out (by have:=s.out;omega)).mono ?_
    rintro e N ⟨⟨v5,rfl⟩,i,E,R⟩
    have aa:Hid (i.map IC.d=uH (fun n=>(n:Int)) (M.treeE g.nr n B) (L.length+1)):=s.out ▸ E
    have I:Hid (i.length=(M.treeE g.nr n B).len):=by show _=_;exact ujq E
    have W:Hid (CS w0 b (.slice l g.nr m) (.slice la g.nb lc) (L ++ [ic k z 0] ++ i) [] (h ++ [(L.length:Int)]) N):=R
    clear E R
    go_wp2_with fail
    refine (ubd w0 b _ _ (L ++ [ic k z 0] ++ i) _ N 11 0 0 W.out (by have u:=I.out;have j:=J.out;have h3:=s.out;rw [List.length_append];omega)).mono ?_
    rintro e W6 ⟨rfl,Y⟩
    go_wp2_with fail
    refine (ubd w0 b _ _ (L ++ [ic k z 0] ++ i ++ [ic 11 0 0]) _ W6 7 0 0 Y.out (by have u:=I.out;have j:=J.out;have h3:=s.out;rw [List.length_append,List.length_append];show _+_+1<=_;omega)).mono ?_
    rintro e W7 ⟨rfl,Z⟩
    go_wp2
    go_end0
    refine ⟨⟨_,rfl⟩,ic k z 0 :: (i ++ [ic 11 0 0,ic 7 0 0]),?_,?_⟩
    · rw [List.map_cons,List.map_append,aa.out];rfl
    · have e:L ++ ic k z 0 :: (i ++ [ic 11 0 0,ic 7 0 0])=L ++ [ic k z 0] ++ i ++ [ic 11 0 0] ++ [ic 7 0 0]:=by simp
      rw [e];exact Z.out)
open M (lk)
def lkI(f:Int->Int)(x:IC):IC:=⟨lk f x.d,x.a,x.c⟩
def lkd(f:Int->Int)(l:List IC)(k:Nat):List IC:=(l.take k).map (lkI f)++l.drop k
theorem uoN f l k:(lkd f l k).length=l.length:=by
 unfold lkd;rw[List.length_append,List.length_map,List.length_take,List.length_drop];omega
theorem uoO{f l k x}(h:l[k]?=some x):(lkd f l k)[k]?=some x:=by
 have a:=(List.getElem?_eq_some_iff.1 h).1;unfold lkd;rw[List.getElem?_append_right (by rw[List.length_map,List.length_take];omega),List.length_map,List.length_take,show k-min k l.length=0 by omega,List.getElem?_drop];simpa using h
theorem ulX{f l k x}(h:l[k]?=some x):lkd f l (k+1)=(lkd f l k).set k (lkI f x):=by
 have a:=(List.getElem?_eq_some_iff.1 h).1;have b:=(List.getElem?_eq_some_iff.1 h).2;unfold lkd;rw[List.set_append_right _ _ (by rw[List.length_map,List.length_take];omega),List.length_map,List.length_take,show k-min k l.length=0 by omega,List.drop_eq_getElem_cons a,List.set_cons_zero,List.take_succ_eq_append_getElem a,List.map_append,List.append_assoc,b];rfl
theorem ulY{f x}(h:¬(x.d.kind=6\/x.d.kind=8)):lkI f x=x:=by
 unfold lkI lk;rw[if_neg h]
theorem ulZ{f x}(h:x.d.kind=6\/x.d.kind=8):lkI f x=toI x (f x.d.to):=by
 unfold lkI lk toI;rw[if_pos h]
theorem ul0 f l:lkd f l l.length=l.map (lkI f):=by
 unfold lkd;simp
theorem ul1 f l:lkd f l 0=l:=by simp[lkd]
def lnI(w0:World)(a:Nat)(u0 u1:Value)(l:List IC)(b:List Int)(f:Int->Int)(P F S:Nat->Prop)(e d:Value)(c:Value)(wr:World):Prop :=
 ∃k:Nat,k<=l.length/\c=.int .i64 (k:Int)/\CP w0 a u0 u1 (lkd f l k) [] b wr P F S e d
theorem ul2 w0 o u0 u1 l b f w(h:CS w0 o u0 u1 l [] b w)(aj:0<l.length)(hl:l.length<=200000)(ai:b.length<=200000)(Z:∀(i:Nat) (x:IC),l[i]?=some x->x.d.kind=6\/x.d.kind=8->∃n:Nat,x.d.to=(n:Int)/\b[n]?=some (f x.d.to)) :
  Calls Tryz.prog 36 #[.pointer (some ⟨o,0,none⟩)] w λe w'=>(∃v,e=.returned v)/\CS w0 o u0 u1 (l.map (lkI f)) [] b w':=by
 obtain⟨P,F,S,vp,C,h⟩:=h;obtain⟨g,cap,rfl,ah⟩:∃g cap,vp=.slice (some ⟨g,0,none⟩) l.length cap/\l.length<=cap:=by
  rcases h.own with⟨_,q,_⟩|⟨g,cap,e,Y,U,H,A,I⟩
  ·omega
  exact⟨g,cap,e,H⟩
 have ab:=ua Z;have HP:Hid (CP w0 o u0 u1 (lkd f l 0) [] b w P F S (.slice (some ⟨g,0,none⟩) l.length cap) C):=by show CP _ _ _ _ _ _ _ _ _ _ _ _ _;rw[ul1];exact h
 have p2:=h.p;have ak:=h.cb0.2;clear h Z;go_enter Tryz.func36,Tryz.ntmps36;go_wp2;go_loopw [9] (λN wr=>lnI w0 o u0 u1 l b f P F S (.slice (some ⟨g,0,none⟩) l.length cap) C N wr) (λN _=>l.length-(intOf N).toNat)
 case atStart=>exact⟨0,Nat.zero_le _,rfl,HP⟩
 case round =>
  clear p2;obtain⟨k,hk,rfl,m⟩:=hrel;have D:Hid (CP w0 o u0 u1 (lkd f l k) [] b wr P F S (.slice (some ⟨g,0,none⟩) l.length cap) C):=m;by_cases af:k<l.length
  ·obtain⟨x,B⟩:∃x,l[k]?=some x:=⟨l[k],List.getElem?_eq_getElem af⟩;have L:=uoO (f:=f) B;have u:∀j,j<4->wr.cell? ⟨g,k*4+j,none⟩=(icv x)[j]?/\wr.frozen? ⟨g,k*4+j,none⟩=false:=λj hj=>by
    rcases m.own with⟨q,_⟩|⟨g',ac,q,Y,U,H,A,I⟩
    ·cases q
    obtain⟨rfl,rfl⟩:g=g'/\cap=ac:=by
     injection q with e1 e2 e3;injection e1 with e1;injection e1 with e1;exact⟨e1,e3⟩
    have W:=uaG (lkd f l k);rw[uoN]at W;exact⟨by rw[A _ (by rw[W];omega)];exact uaH _ k j x L hj,(I _ (by omega)).2⟩
   have c0:wr.cell? ⟨g,k*4,none⟩=some (.int .i64 x.d.kind):=(u 0 (by omega)).1;have c1:wr.cell? ⟨g,k*4+1,none⟩=some (.int .i64 x.d.arg):=(u 1 (by omega)).1;have c2:wr.cell? ⟨g,k*4+2,none⟩=some (.int .i64 x.d.to):=(u 2 (by omega)).1;have c3:wr.cell? ⟨g,k*4+3,none⟩=some (.slice x.a x.d.sl x.c):=(u 3 (by omega)).1;have cf:=(u 2 (by omega)).2;have lg:=ud c0;have q2:=m.p;have q3:=m.f;have al:=m.cb0.2;have HX:Hid (l[k]?=some x):=B;have E:Hid (lkd f l (k+1)=(lkd f l k).set k (lkI f x)):=ulX B;have Q:Hid ((lkd f l k)[k]?=some x):=L;have hk':(k:Int)<(l.length:Int):=(by omega);clear u L B;by_cases r:x.d.kind=6\/x.d.kind=8
   ·obtain⟨n,X,J⟩:=ab.out k x HX.out r;have ag:n<b.length:=(List.getElem?_eq_some_iff.1 J).1;obtain⟨s,y,rfl,V⟩:∃s y,C=.slice (some ⟨s,0,none⟩) b.length y/\wr.cell? ⟨s,n,none⟩=some (.int .i64 (f x.d.to)):=by
     rcases m.ownf with⟨_,q,_⟩|⟨s,y,e,Y,U,H,A,I⟩
     ·omega
     refine⟨s,y,e,?_⟩;rw[A n (by rw[ukH];exact ag)];unfold vE;rw[List.getElem?_map,J];rfl
    have G:Hid (lkI f x=toI x (f x.d.to)):=ulZ r;have am:=ud V;rw[X]at c2 V G;have hn':(n:Int)<(b.length:Int):=(by omega);have O:Hid (∀t:Int,CP w0 o u0 u1 ((lkd f l k).set k (toI x t)) [] b ((wr.setCell ⟨g,k*4+2,none⟩ (.int .i64 t)).alloc (.cells #[.int .i64 x.d.kind,.int .i64 x.d.arg,.int .i64 (n:Int),.slice x.a x.d.sl x.c] 86)).drew P F S (.slice (some ⟨g,0,none⟩) l.length cap) (.slice (some ⟨s,0,none⟩) b.length y)):=λt=>(D.out.aim Q.out).later (ui _ _).drew
    clear m J X;generalize f (n:Int)=T at *;by_cases z:x.d.kind=6
    ·have R:(x.d.kind==6)=true:=(by simp[z]);clear z r;go_wp2;go_region;all_goals go_wp2
     all_goals go_roundw
     all_goals first
      |exact⟨k+1,by omega,by go_num,by rw[E.out,G.out];exact O.out T⟩
      |(simp[intOf];omega)
    have R:(x.d.kind==6)=false:=(by simp[z]);have f8:(x.d.kind==8)=true:=(by simp;omega);clear z r;go_wp2;go_region;all_goals go_wp2
    all_goals go_roundw
    all_goals first
     |exact⟨k+1,by omega,by go_num,by rw[E.out,G.out];exact O.out T⟩
     |(simp[intOf];omega)
   have R:(x.d.kind==6)=false:=(by simp;omega);have f8:(x.d.kind==8)=false:=(by simp;omega);have aa:Hid (lkd f l (k+1)=lkd f l k):=by
    show _=_;rw[E.out,ulY r];obtain⟨ad,ae⟩:=List.getElem?_eq_some_iff.1 Q.out;rw[<-ae];exact List.set_getElem_self ad
   clear m r;go_wp2;go_roundw
   case rel=>exact⟨k+1,by omega,by go_num,by rw[aa.out];exact D.out.later (ui wr _)⟩
   case measure=>simp[intOf];omega
  obtain rfl:k=l.length:=by omega
  go_wp2;go_end0;exact⟨⟨_,rfl⟩,_,_,_,_,_,by rw[<-ul0];exact D⟩
end Go.Proofs.YtimfigongapdnaaGreat
