import Derived.Test.YtimfigongapdnaaGreatT44
set_option linter.unusedVariables false
set_option linter.unusedSimpArgs false
set_option maxHeartbeats 40000000
set_option maxRecDepth 100000
namespace Go.Proofs.YtimfigongapdnaaGreat
open Go.RowKit
open M (OpD ug Gr)
def soup3:ByteArray:=⟨#[97,98,99,100,97,98,10,48,120,128]⟩
def addL(t:Tp)(p:List Int×Nat):Nat->List Int×Nat
 |0=>p
 |m+1=>((addL t p m).1++[ufw soup3 (t.v (addL t p m).2%10)],t.n (addL t p m).2)
theorem ugQ t(p:List Int×Nat):∀m,(addL t p m).1.length=p.1.length+m
 |0=>rfl
 |m+1=>by rw[addL,List.length_append,ugQ t p m];rfl
open Classical in
noncomputable def di1 (t:Tp) (g:Gr) (i:Nat):List Int×Nat:=if 0<t.v i%8/\M.Valid g then smX t g (t.n i) else ([],t.n i)
def di2(t:Tp)(k:Nat)(p:List Int×Nat):List Int×Nat:=if k<2 then addL t (p.1,t.n p.2) (t.v p.2%12) else p
def di3(t:Tp)(k:Nat)(p:List Int×Nat):List Int×Nat :=
 if k=2/\0<p.1.length then (p.1.set (t.v p.2%p.1.length) (97+(t.v (t.n p.2):Int)%4),t.n (t.n p.2)) else p
def di4(k:Nat)(z:List Int):List Int:=if k=3/\0<z.length then z.take (z.length-1) else z
def di0(p:List Int×Nat):List Int×Nat:=(p.1.take 40,p.2)
def di5(k:Nat)(p:List Int×Nat):List Int×Nat:=(if k=4 then di4 k p.1++[98] else di4 k p.1,p.2)
noncomputable def diT (t:Tp) (g:Gr) (i:Nat):List Int×Nat:=di5 (t.v i%8) (di3 t (t.v i%8) (di0 (di2 t (t.v i%8) (di1 t g i))))
theorem ujD t{g}(l:M.Sound g)i:ByL (diT t g i).1/\(diT t g i).1.length<=41:=by
 have b1:ByL (di1 t g i).1:=by
  unfold di1;split
  ·exact(umx t l _).1.2
  intro x a;cases a
 have c:∀k p,ByL p.1->ByL (di2 t k p).1:=λk p h=>by
  unfold di2;split
  ·have:∀m,ByL (addL t (p.1,t.n p.2) m).1:=λm=>by
    induction m with
    |zero=>exact h
    |succ m o=>exact o.app (λx a=>by obtain rfl:=List.mem_singleton.1 a;exact ufy _ _)
   exact this _
  exact h
 have d:∀k p,ByL p.1->ByL (di3 t k p).1/\(di3 t k p).1.length=p.1.length:=λk p h=>by
  unfold di3;split
  ·refine⟨λx a=>?_,List.length_set⟩;rcases List.mem_or_eq_of_mem_set a with q|rfl
   ·exact h x q
   omega
  exact⟨h,rfl⟩
 have e:∀(k:Nat) (z:List Int),ByL z->ByL (di4 k z)/\(di4 k z).length<=z.length:=λk z h=>by
  unfold di4;split
  ·exact⟨λx a=>h x (List.mem_of_mem_take a),List.length_take_le' _ _⟩
  exact⟨h,Nat.le_refl _⟩
 unfold diT;generalize t.v i%8=k;have f:ByL (di0 (di2 t k (di1 t g i))).1:=λx a=>c k _ b1 x (List.mem_of_mem_take a)
 have r:(di0 (di2 t k (di1 t g i))).1.length<=40:=List.length_take_le _ _;obtain⟨j,s⟩:=d k _ f;obtain⟨b,u⟩:=e k _ j;unfold di5;dsimp only;split
 ·exact⟨b.app (λx a=>by obtain rfl:=List.mem_singleton.1 a;decide),by rw[List.length_append,List.length_singleton];omega⟩
 exact⟨b,by omega⟩
theorem BufR.take{u R j w0 wr z a n c m}(h:BufR u R j w0 z (.slice a n c) wr)(b:m<=z.length):BufR u R j w0 (z.take m) (.slice a m c) wr:=by
 obtain⟨d,f,e⟩:=uk h.own;injection e with e1 e2 e3;subst e1 e2 e3;have:=kz h.own b;rw[Nat.mul_one,<-List.map_take]at this;exact⟨by rw[List.length_take,Nat.min_eq_left b];exact this,h.on,h.lt⟩
theorem BufR.set{u R j w0 wr z v}(h:BufR u R j w0 z v wr)(q:0<z.length):∃b c,v=.slice (some ⟨b,0,none⟩) z.length c/\b≠R/\b<wr.heap.size/\∀m,m<z.length->(wr.cell? ⟨b,m,none⟩).isSome/\wr.frozen? ⟨b,m,none⟩=false/\∀x:Int,BufR u R j w0 (z.set m x) (.slice (some ⟨b,0,none⟩) z.length c) (wr.setCell ⟨b,m,none⟩ (.int .u8 x)):=by
 rcases h.own with⟨_,e,_⟩|⟨b,c,rfl,i,l,n,o,a⟩
 ·omega
 have f:=a 0 (by omega);obtain⟨y,k⟩:=Option.isSome_iff_exists.1 f.1;have p:=h.lt;refine⟨b,c,rfl,by omega,ud k,λm g=>⟨(a m (by omega)).1,(a m (by omega)).2,λx=>?_⟩⟩;have d:=OwnC.put h.own (j:=m) (by rw[List.length_map];exact g) (.int .u8 x);rw[<-List.map_set]at d;exact⟨by rw[List.length_set];exact d,h.on.set i (by omega),h.lt⟩
theorem ucK t{g}(hV:M.Sound g)(hS:vF g){Q R H U la}J lc i w(hG:GR Q R H U la g w)(hR:RdA t R w i) :
  Calls Tryz.prog 18 #[.agg #[.slice U g.nr J,.slice la g.nb lc],.pointer (some ⟨R,0,none⟩)] w (λe w'=>∃v,e=.returned v/\BufR t R (diT t g i).2 w (diT t g i).1 v w'):=by
 have hv:=t.v_le i;have ak:=hR.lt;have bj:w.heap.size≠R:=by omega
 have be:=hV.r1;have bs:=hV.r2;obtain⟨zz,ag⟩:=nm (diT t g i);have o:=ua ag;unfold diT at o;rw[ag];clear ag;have K0:=ua (Keep.alloc (λ_=>False) w (.cells #[.slice U g.nr J,.slice la g.nb lc] 28));have B:=ua (ux w #[.slice U g.nr J,.slice la g.nb lc] 28);have z:=ua hG;have HV:=ua hV;have ai:=ua hS;clear hG hV hS;go_enter Tryz.func18,Tryz.ntmps18;go_upto_region 1 with fail;generalize w.alloc _=W0 at *;go_wp2_with fail;refine(uw t R i W0 (hR.keep K0 (λ_ e=>e.elim))).mono ?_;rintro e W1 ⟨rfl,h⟩;have HO:Hid (RdOn t R (t.n i) w W1):=⟨h.1,(K0.mono (λ_ e=>e.elim)).trans h.2⟩;replace B:=ua (B.keepR h.2 bj);replace z:=ua (z.keep HO.2);clear h K0 hR;have V:=ua (di1.eq_1 t g i);generalize di1 t g i=f at *;generalize t.v i=k0 at *;generalize t.n i=i1 at *;obtain⟨k,hk⟩:=nm (k0%8);have hk':(k0:Int)%8=(k:Int):=by omega
 have bo:k<8:=by omega
 rw[hk]at o V;clear hk;obtain⟨z0,p0,l0⟩:=B.x;go_upto_region 3 with fail;simp only[hk'];clear hk' hv
 classical
 obtain⟨ok,ap⟩:=nm (decide (0<k/\M.Valid g));have O:=ua ap;clear ap;go_cut [20] (λv wc=>v=.bool ok/\Below W1.heap.size W1 wc)
 case first =>
  by_cases q0:k=0
  ·have b0:¬(0:Int)<(k:Int):=(by omega);have c:Hid (ok=false):=(by show _=_;rw[<-O.out];simp[q0]);clear q0;go_wp2;go_meet;exact⟨by rw[c.out],Below.refl _ _⟩
  have b0:(0:Int)<(k:Int):=by omega
  have bb:0<k:=by omega
  go_wp2_with fail;refine(jZ Q U la J lc g W1 z.g.plain ai).mono ?_;rintro e W2 ⟨⟨r,rfl,hr⟩,E⟩;have c:Hid (r=ok):=by show _=_;rw[<-O.out];simp only[bb,true_and];rw[Bool.eq_iff_iff,hr];simp
  have a:=ua E;clear hr E;go_wp2;go_meet;exact⟨by rw[c.out],a⟩
 case rest =>
  obtain⟨rfl,E⟩:=hcut;have W:=ua (HO.quiet (vK E));replace z:=ua (z.keep ((vK E).mono (λ_ e=>e.elim)));replace B:=ua (B.on E);clear E z0 p0 l0;obtain⟨z0,p0,l0⟩:=B.x;go_upto_if 20 with fail;go_cut [6] (λv wc=>BufR t R f.2 w f.1 v wc/\f.1.length<=4782969)
  case first =>
   cases ok with
   |false =>
    have c:Hid (f=([],i1)):=(by show _=_;rw[V.out,if_neg (of_decide_eq_false O.out)]);go_wp2;go_meet;rw[c.out];exact⟨.nil W ak,Nat.zero_le _⟩
   |true =>
    have c:Hid (f=smX t g i1):=(by show _=_;rw[V.out,if_pos (of_decide_eq_true O.out)]);have aa:=umx t HV i1;rw[<-c.out]at aa;rcases z.g.rules with q0|⟨rb,ro,rfl,bt,hL⟩
    ·omega
    obtain⟨na,nc,ba,bc,v0,hn,v1,al,am⟩:=(hL 0 be).body_cap;rw[Nat.zero_mul,Nat.add_zero]at v1;have lb:=ud v1;have hk':(0:Int)<(g.nr:Int):=(by omega);have HC:=ua (aa.2 R Q H _ la J lc ba bc wc.drew (z.keep (Keep.drew _ _)) (al.kept (Keep.drew (λ_=>False) _) (λ_ _ e=>e)) am (W.1.keep (Keep.drew (λ_=>False) _) (λ_ e=>e.elim)));have az:=ua aa.1.1;clear aa hL hn v0 al am;go_wp2_with fail;go_region_law (refine qC kN rfl (.tmp 21) (.tmp 26) (.tmp 27) (.const (.int .i64 14)) 28 68 42 3 rfl (y1:=.agg #[.slice (some ⟨rb,ro,none⟩) g.nr J,.slice la g.nb lc]) (y2:=.slice ba (g.rule 0).bl bc) (y3:=.pointer (some ⟨R,0,none⟩)) (y4:=.int .i64 14) (by simp[Act.eval]) (by simp[Act.eval]) (by simp[Act.eval]) rfl (HC.out.mono ?_);rintro e W3 ⟨v,rfl,b⟩;have q:=ua (ucU (W.out.quiet (Keep.drew _ _)) ak b);clear b;refine⟨_,rfl,?_⟩);all_goals
     go_wp2;go_meet;exact⟨q,az⟩
  case rest =>
   obtain⟨b,a0⟩:=hcut;obtain⟨a1,c1,rfl⟩:=b.shape;have a:=ua b;clear b V O z0 p0 l0 B z W HO ai HV;obtain⟨u,ac⟩:=nm (di2 t k f);rw[ac]at o;have C:=ua ac;unfold di2 at C;clear ac;go_upto_if 30 with fail;go_cut [6] (λv wc=>BufR t R u.2 w u.1 v wc/\u.1.length<=4783000)
   case first =>
    by_cases s:k<2
    ·have b2:(k:Int)<2:=(by omega);rw[if_pos s]at C;have bg:=t.v_le f.2;clear s;go_wp2_with fail;refine(uw t R f.2 _ a.on.1).mono ?_;rintro e W3 ⟨rfl,h⟩;replace a:=ua (a.next h);clear h;generalize t.v f.2=k1 at *;generalize t.n f.2=F at *;obtain⟨m,l⟩:=nm (k1%12);have hm':(k1:Int)%12=(m:Int):=(by omega);have bq:m<12:=(by omega);rw[l]at C;clear l;go_upto_region 8 with fail;simp only[hm'];clear hm';have bk:soup3.size=10:=rfl;go_loopw [6,8] (λov iv wr=>∃j:Nat,j<=m/\iv=.int .i64 (j:Int)/\BufR t R (addL t (f.1,F) j).2 w (addL t (f.1,F) j).1 ov wr) (λ_ iv _=>m-(intOf iv).toNat)
     case atStart=>exact⟨0,Nat.zero_le _,rfl,a⟩
     case round =>
      obtain⟨j,hj,rfl,b⟩:=hrel;obtain⟨a2,Z,rfl⟩:=b.shape;have an:=ugQ t (f.1,F) j;have c:=ua (addL.eq_2 t (f.1,F) j);have HJ:Hid (∀i,j=i->addL t (f.1,F) j=addL t (f.1,F) i):=λi e=>by rw[e]
      have N:=ua b;clear b;generalize addL t (f.1,F) j=L at *;have ao:L.1.length<=4782969+12:=(by rw[an];dsimp only;omega);clear an;by_cases bp:j<m
      ·have hlt':(j:Int)<(m:Int):=(by omega);have bh:=t.v_le L.2;go_wp2_with fail;refine(uw t R L.2 _ N.on.1).mono ?_;rintro e W4 ⟨rfl,h⟩;replace N:=ua (N.out.next h);clear h;generalize t.v L.2=S at *;generalize t.n L.2=i3 at *;obtain⟨m3,l⟩:=nm (S%10);have hm':(S:Int)%10=(m3:Int):=(by omega);have bf:m3<soup3.size:=(by show m3<10;omega);rw[l,ufx bf]at c;clear l;go_upto_region 12 with fail;rw[show(({ data:=#[97,98,99,100,97,98,10,48,120,128] }:ByteArray))=soup3 from rfl];go_wp2_with (at_builtin;refine umd rfl _ _ rfl rfl rfl N.out (by omega) ?_;intro Xa Xc W5 X);go_roundw
       case rel=>exact⟨j+1,by omega,by go_num,by rw[c.out];exact X.out⟩
       case measure=>simp[intOf];omega
      obtain rfl:j=m:=(by omega);have hlt':¬(j:Int)<(j:Int):=(by omega);have ay:Hid (L=u):=(by show _=_;rw[HJ.out _ rfl];exact C);go_wp2;go_meet;rw[<-ay.out];exact⟨N,by omega⟩
    have b2:¬(k:Int)<2:=(by omega);rw[if_neg s]at C;clear s;go_wp2;go_meet;rw[<-C.out];exact⟨a,by omega⟩
   case rest =>
    obtain⟨b,a6⟩:=hcut;obtain⟨a2,Z,rfl⟩:=b.shape;replace a:=ua b;clear b C a0;obtain⟨d,ad⟩:=nm (di0 u);rw[ad]at o;have Y:=ua ad;clear ad;go_upto_if 52 with fail;go_cut [6] (λv wc=>BufR t R d.2 w d.1 v wc/\d.1.length<=40)
    case first =>
     have ao:d.1.length<=40:=(by rw[<-Y.out];exact List.length_take_le _ _);by_cases q4:40<u.1.length
     ·have b4:(u.1.length:Int) > 40:=(by omega);have a9:=(ubj a.own).2.2;have a7:40<=Z:=(by omega);have a8:(40:Int)<=(Z:Int):=(by omega);have q:Hid (BufR t R d.2 w d.1 (.slice a2 40 Z) wc):=(by show BufR _ _ _ _ _ _ _;rw[<-Y.out];exact a.take (by omega));go_wp2;all_goals go_meet
      all_goals exact⟨q,ao⟩
     have b4:¬(u.1.length:Int) > 40:=(by omega);have q:Hid (u=d):=(by show _=_;rw[<-Y.out];unfold di0;rw[List.take_of_length_le (by omega)]);go_wp2;go_meet;rw[<-q.out];exact⟨a,by omega⟩
    case rest =>
     obtain⟨b,ab⟩:=hcut;obtain⟨a3,c3,rfl⟩:=b.shape;replace a:=ua b;clear b Y a6;obtain⟨y,ae⟩:=nm (di3 t k d);rw[ae]at o;have D:=ua ae;unfold di3 at D;clear ae;obtain⟨s,aq⟩:=nm (decide (k=2/\0<d.1.length));have G:=ua aq;clear aq;go_upto_region 15 with fail;go_cut [61] (λv ah=>v=.bool s/\ah=wc)
     case first =>
      by_cases P:k=2
      ·subst P;by_cases p:0<d.1.length
       ·have c:Hid (true=s):=(by show _=_;rw[<-G.out];simp[p]);go_wp2;go_meet;exact⟨by rw[<-c.out],rfl⟩
       have c:Hid (false=s):=(by show _=_;rw[<-G.out];simp[p]);go_wp2;go_meet;exact⟨by rw[<-c.out],rfl⟩
      have b2:((k:Int)==2)=false:=(by simp;omega);have c:Hid (false=s):=(by show _=_;rw[<-G.out];simp[P]);go_wp2;go_meet;exact⟨by rw[<-c.out],rfl⟩
     case rest =>
      obtain⟨rfl,hw⟩:=hcut;subst hw;go_upto_if 61 with fail;go_cut [6] (λv wc=>BufR t R y.2 w y.1 v wc/\y.1.length<=40)
      case first =>
       cases s with
       |false =>
        rw[if_neg (of_decide_eq_false G.out)]at D;go_wp2;go_meet;rw[<-D.out];exact⟨a,ab⟩
       |true =>
        obtain⟨rfl,p⟩:=of_decide_eq_true G;rw[if_pos ⟨rfl,p⟩]at D;have bg:=t.v_le d.2;have bh:=t.v_le (t.n d.2);have e3':¬(d.1.length:Int)=0:=(by omega);go_wp2_with fail;refine(uw t R d.2 _ a.on.1).mono ?_;rintro e W4 ⟨rfl,h⟩;replace a:=ua (a.next h);clear h;generalize t.v d.2=S at *;generalize t.n d.2=i3 at *;obtain⟨m,l⟩:=nm (S%d.1.length);have hm':(S:Int)%(d.1.length:Int)=(m:Int):=(by rw[<-l];norm_cast);have bd:m<d.1.length:=(by rw[<-l];exact Nat.mod_lt _ p);have hml':(m:Int)<(d.1.length:Int):=(by omega);rw[l]at D;clear l;go_wp2_with fail;refine(uw t R i3 _ a.on.1).mono ?_;rintro e W5 ⟨rfl,h⟩;replace a:=ua (a.next h);clear h;generalize t.v i3=kw at *;obtain⟨sb,sc,he,bw,bx,ax⟩:=a.set p;injection he with he1 he2 he3;subst he1 he3;obtain⟨av,bu,aw⟩:=ax m bd;obtain⟨cv,bn⟩:=Option.isSome_iff_exists.1 av;have q:=ua (aw (97+(kw:Int)%4));have hx:0<=(kw:Int)%4/\(kw:Int)%4<4:=(by omega);clear ax av aw;go_wp2;go_meet;rw[<-D.out];exact⟨q,by rw[List.length_set];exact ab⟩
      case rest =>
       obtain⟨b,aj⟩:=hcut;obtain⟨a4,c4,rfl⟩:=b.shape;replace a:=ua b;clear b D ab G;obtain⟨z5,af⟩:=nm (di4 k y.1);unfold di5 at o;rw[af]at o;have A:=ua af;unfold di4 at A;clear af;obtain⟨T,au⟩:=nm (decide (k=3/\0<y.1.length));have I:=ua au;clear au;go_upto_region 18 with fail;go_cut [81] (λv ah=>v=.bool T/\ah=wc)
       case first =>
        by_cases P:k=3
        ·subst P;by_cases p:0<y.1.length
         ·have c:Hid (true=T):=(by show _=_;rw[<-I.out];simp[p]);go_wp2;go_meet;exact⟨by rw[<-c.out],rfl⟩
         have c:Hid (false=T):=(by show _=_;rw[<-I.out];simp[p]);go_wp2;go_meet;exact⟨by rw[<-c.out],rfl⟩
        have b2:((k:Int)==3)=false:=(by simp;omega);have c:Hid (false=T):=(by show _=_;rw[<-I.out];simp[P]);go_wp2;go_meet;exact⟨by rw[<-c.out],rfl⟩
       case rest =>
        obtain⟨rfl,hw⟩:=hcut;subst hw;go_upto_if 81 with fail;go_cut [6] (λv wc=>BufR t R y.2 w z5 v wc/\z5.length<=40)
        case first =>
         cases T with
         |false =>
          rw[if_neg (of_decide_eq_false I.out)]at A;go_wp2;go_meet;rw[<-A.out];exact⟨a,aj⟩
         |true =>
          obtain⟨rfl,p⟩:=of_decide_eq_true I;rw[if_pos ⟨rfl,p⟩]at A;obtain⟨m,l⟩:=nm (y.1.length-1);have hm':(y.1.length:Int)-1=(m:Int):=(by omega);have a9:=(ubj a.own).2.2;have a7:m<=c4:=(by omega);have a8:(m:Int)<=(c4:Int):=(by omega);have br:=uz m (by omega);have q:=ua (a.take (m:=m) (by omega));rw[l]at A;rw[A.out]at q;have bi:z5.length<=40:=(by rw[<-A.out];exact Nat.le_trans (List.length_take_le _ _) (by omega));clear l;go_wp2;all_goals go_meet
          all_goals exact⟨q.out,bi⟩
        case rest =>
         obtain⟨b,bm⟩:=hcut;obtain⟨a5,c5,rfl⟩:=b.shape;replace a:=ua b;clear b A aj I;by_cases e4:k=4
         ·subst e4;rw[if_pos rfl]at o;go_wp2_with (at_builtin;refine umd rfl _ _ rfl rfl rfl a.out (by omega) ?_;intro Xa Xc W5 X);go_ret;rw[<-o.out];exact⟨_,rfl,X⟩
         have b4:((k:Int)==4)=false:=(by simp;omega);rw[if_neg e4]at o;go_wp2;go_ret;rw[<-o.out];exact⟨_,rfl,a⟩
open M (ur)
def uja(t:MSt)(X:Nat->Prop)(ka:Option Addr)(kc:Nat)(la:Option Addr)(lc:Nat)(w:World)(e:Ending)(w':World):Prop :=
 ∃a c d,e=.returned (stV t ka kc la lc a c d)/\ExA (λb=>X b\/New w w' b) w' a c/\Below w.heap.size w w'
theorem usf{X w w' a c}(h:ExA X w a c)(k:Below w.heap.size w w'):ExA (λb=>X b\/New w w' b) w' a c:=(h.later k).wide (λb q=>.inl q)
theorem uoo{t X ka kc la lc a b d w w'}(h:ExA X w a b)(c:Below w.heap.size w w'):uja t X ka kc la lc w (.returned (stV t ka kc la lc a b d)) w':=⟨a,b,d,rfl,usf h c,c⟩
def XB(X:Nat->Prop)(w wc:World)(b:Nat):Prop:=(X b/\b<w.heap.size)\/(w.heap.size+2<=b/\b<wc.heap.size)
theorem ExA.xb{X w w' d a}(h:ExA X w d a)(k:Below w.heap.size w w'):ExA (XB X w w') w' d a:=by
 obtain⟨g,S,h⟩:=h;refine⟨g,S,?_⟩;rcases h with e|⟨b,o,e,l,c⟩
 ·exact .inl e
 by_cases f:a=0
 ·exact .inl f
 exact .inr ⟨b,o,e,.inl ⟨l,ud (c 0 (by omega))⟩,λi j=>ue (c i j) k⟩
def tsR(X:Nat->Prop)(s:MSt)(ka:Option Addr)(n kc:Nat)(la:Option Addr)(ln lc:Nat)(w wc:World):Prop :=
 ∃a b c,Box wc w.heap.size (stC s ka n kc la ln lc a b c)/\Box wc (w.heap.size+1) st0/\ExA (XB X w wc) wc a b/\Below w.heap.size w wc
theorem uop{t X ka kc la lc a c d w V W w'}(h:ExA (XB X w V) W a c)(g:V.heap.size<=W.heap.size)(f:Stay (XB X w V) W w')(e:Below w.heap.size w w')(i:W.heap.size<=w'.heap.size):uja t X ka kc la lc w (.returned (stV t ka kc la lc a c d)) w' :=
 ⟨a,c,d,rfl,(h.on f).wide (λb q=>q.elim (λq=>.inl q.1) (λq=>.inr ⟨by omega,by omega⟩)),e⟩
theorem uoq{X u ka n kc la ln lc w V W c M a k}(o:w.heap.size+2<=V.heap.size)(g:Box V w.heap.size c)(h:Box V (w.heap.size+1) st0)(i:Below w.heap.size w V)(e:OwnL V W (.slice a (rg M 256).length k) (rg M 256))m(l:(rg M 256).length=m)(j:c.setIfInBounds 5 (.slice a m k)=stC u ka n kc la ln lc a m k):tsR X u ka n kc la ln lc w (W.setCell ⟨w.heap.size,5,none⟩ (.slice a m k)):=by
 have d:=e.bel;have f:=uqm e;rw[l]at f;refine⟨a,m,k,j▸(g.on d).set 5 _,(h.on d).far _ _ _ (by omega),?_,uK (uf i d) _ _ _ (Nat.le_refl _)⟩;exact(f.on (ugF W ⟨w.heap.size,5,none⟩ _ (λq=>by have:=q.1;simp at this;omega))).wide (λb q=>.inr ⟨by have:=q.1;omega,by rw[uj];exact q.2⟩)
theorem ujb X Q Q' s ka la d kc lc a g H c Z S ia il ic I w(hK:FrA w ka s.st)(hX:ExA X w d a)(R:Ints Q .i64 w H c S)(C:Ints Q' .u8 w ia il I)(hB:Byt il I)(r:s.st.length<=1000)(ai:s.st.length<=kc)(aj:s.log.length<=lc)(ak:∀f,f∈s.st->f.kind≠2->f.log<=s.log.length)(af:c<=1048576)(av:il<=1048576)(au:0<=s.at_)(aq:s.at_<=1048576) :
  Calls Tryz.prog 131 #[stV s ka kc la lc d a g,.slice H c Z,.slice ia il ic] w (uja (s.test c S il I) X ka kc la lc w):=by
 have HC:Hid (∀d a g W,FrA W ka s.st->Calls Tryz.prog 133 #[stV s ka kc la lc d a g] W (xI s.inNot W)):=λd a g W h=>ucA s ka la d kc lc a g W h r
 have J:Hid (∀t:MSt,t.st=s.st->t.log=s.log->∀d a g W,FrA W ka t.st->Calls Tryz.prog 134 #[stV t ka kc la lc d a g] W (ua7 (stV t.fail ka kc la lc d a g) W)):=λt e1 e2 d a g W h=>ud0 t ka la d kc lc a g W h (by rw[e1];exact r) (by rw[e1];exact ai) (by rw[e2];exact aj) (by rw[e1,e2];exact ak)
 have HK:=ua hK;have N:=ua hX;have HS:=ua R;have HI:=ua C;have an:=ua hB;have aw:=hX.1;obtain⟨n,ae⟩:=nm s.st.length;obtain⟨ln,ad⟩:=nm s.log.length;simp only[xp,ae,ad]at HC ⊢;have HN:=ua ae;have ag:=ua ad;clear hK hX R C hB ak r ai aj ae ad;obtain⟨ah,hh⟩:=nm (decide (s.pos<il/\yr c S (I s.pos)=true));have B:=ua hh;clear hh;unfold stC;go_enter Tryz.func131,Tryz.ntmps131;go_upto_region 1 with fail;generalize D:(w.alloc _).alloc _=O;have A:Box O w.heap.size (stC s ka n kc la ln lc d a g):=D▸(ux w _ 155).al _;have b1:Box O (w.heap.size+1) st0:=D▸yG _ st0 155 _ (by simp);have i:Hid (Below w.heap.size w O):=D▸uP w _ _;have l:=ua A;have o:=ua b1;obtain⟨z,p,lz⟩:=A.x;obtain⟨y,q,ly⟩:=b1.x;clear A b1 D;unfold stC at z;unfold st0 at y;go_cut [21] (λv wc=>v=.bool ah/\wc=O)
 case first =>
  by_cases F:s.pos<il
  ·rcases HI.out with h0|⟨ib,ax,rfl,hq,C⟩
   ·omega
   have Y:=C s.pos F;have k:=an s.pos F;have HE:=ua B;obtain⟨x,G⟩:=nm (I s.pos);rw[G]at Y k HE;replace Y:=ue Y i;have ay:=ud Y;have hp':(s.pos:Int)<(il:Int):=(by omega);clear C G;go_wp2_with fail;refine(uau Q H c Z S x _ (HS.later i) af).mono ?_;rintro e W ⟨rfl,D⟩;subst W;go_wp2;go_meet;exact⟨by rw[<-HE.out];simp[F],rfl⟩
  have hp':¬(s.pos:Int)<(il:Int):=by omega
  go_wp2;go_meet;exact⟨by rw[<-B.out];simp[F],rfl⟩
 case rest =>
  obtain⟨rfl,hw⟩:=hcut;subst hw;cases ah with
  |true =>
   have J:Hid (s.test c S il I={ s with pos:=s.pos+1,at_:=s.at_+1 }):=if_pos (of_decide_eq_true B.out);have F:=(of_decide_eq_true B).1;go_wp2;refine bodyPost_ret (v:=stV (s.test c S il I) ka kc la lc d a g) ?_ rfl ?_
   ·rw[J.out,xp];simp[results,Tryz.f131,go_sem,stC,HN.out,ag.out, *]
   rw[J.out];refine uoo N ?_;repeat with_reducible first|exact i.out|refine uK ?_ _ _ _ (by omega)
  |false =>
   have HF:Hid (s.test c S il I=(if s.inNot then s else s.note c S).fail):=if_neg (of_decide_eq_false B.out);go_wp2_with fail;refine(HC d a g _ (HK.later i)).mono ?_;rintro e W1 ⟨rfl,U⟩;replace l:=ua (l.on U);replace o:=ua (o.on U);replace i:=ua (uf i U);obtain⟨z,p,lz⟩:=l.x;obtain⟨y,q,ly⟩:=o.x;clear U;unfold stC at z;unfold st0 at y;obtain⟨u,hu⟩:=nm (if s.inNot then s else s.note c S);rw[hu]at HF;have L:=ua hu;clear hu;go_upto_if 33 with fail;go_cut [] (λwc=>tsR X u ka n kc la ln lc w wc)
   case first =>
    cases r:s.inNot with
    |true =>
     obtain rfl:s=u:=(by rw[<-L.out,r];rfl);go_wp2;go_meet;exact⟨d,a,g,l,o,N.xb i,i⟩
    |false =>
     have ab:Hid (s.note c S=u):=(by show _=_;rw[<-L.out,r];rfl);by_cases h1:s.far<s.pos
     ·have h1':(s.far:Int)<(s.pos:Int):=(by omega);obtain rfl:{ s with far:=s.pos,exp:=λb=>yr c S (b:Int) }=u:=(by rw[<-ab.out];exact(if_pos h1).symm);go_wp2_with fail;refine(ucz Q (λ_=>False) H none c 0 Z 0 S (λ_=>0) _ (HS.later (uK i _ _ _ (by omega))) (.inl rfl) af (by omega)).mono ?_;rintro e W2 ⟨a2,c2,rfl,j⟩;generalize E:(rg (λb=>yr c S (b:Int)||yr 0 (λ_=>0) (b:Int)) 256).length=m;have aa:=uoq (X:=X) (ka:=ka) (n:=n) (kc:=kc) (la:=la) (ln:=ln) (lc:=lc) (by rw[uj];omega) (l.set 4 (.int .i64 (s.pos:Int))) (o.far w.heap.size 4 (.int .i64 (s.pos:Int)) (by omega)) (uK i _ _ _ (by omega)) j (u:={ s with far:=s.pos,exp:=λb=>yr c S (b:Int) }) m E rfl;obtain⟨z,p,lz⟩:=((l.set 4 (.int .i64 (s.pos:Int))).on j.bel).x;clear j E;go_wp2;go_meet;exact aa
     have h1':¬(s.far:Int)<(s.pos:Int):=(by omega);by_cases j:s.pos=s.far
     ·have h2':((s.pos:Int)==(s.far:Int))=true:=(by simp[j]);obtain rfl:{ s with exp:=λb=>yr c S (b:Int)||s.exp b }=u:=(by rw[<-ab.out];exact((if_neg h1).trans (if_pos j)).symm);clear j;go_wp2_with fail;obtain⟨_,T,hT⟩:=N.out;refine(ucz Q _ H d c a Z g S T _ (HS.later i) (hT.later i) af (by omega)).mono ?_;clear hT;rintro e W2 ⟨a2,c2,rfl,j⟩;generalize E:(rg (λb=>yr c S (b:Int)||yr a T (b:Int)) 256).length=m;have aa:=uoq (X:=X) (ka:=ka) (n:=n) (kc:=kc) (la:=la) (ln:=ln) (lc:=lc) (by omega) l o i j (u:={ s with exp:=λb=>yr c S (b:Int)||s.exp b }) m E rfl;obtain⟨z,p,lz⟩:=(l.on j.bel).x;clear j E;go_wp2;go_meet;exact aa
     have h2':((s.pos:Int)==(s.far:Int))=false:=(by simp;omega);obtain rfl:s=u:=(by rw[<-ab.out];exact((if_neg h1).trans (if_neg j)).symm);go_wp2;go_meet;exact⟨d,a,g,l,o,N.xb i,i⟩
   case rest =>
    obtain⟨d,a,g,A,b1,G,k⟩:=hcut;have P:u.st=s.st:=by rw[<-L.out];split;rfl;unfold MSt.note;split;rfl;split<;>rfl
    have el:u.log=s.log:=by rw[<-L.out];split;rfl;unfold MSt.note;split;rfl;split<;>rfl
    have V:=J u P el d a g wc (P▸HK.later k);rw[xp,P,el,HN.out,ag.out]at V;have ac:=ua G;replace i:=ua k;replace o:=ua b1;obtain⟨z,p,lz⟩:=A.x;clear A b1 G k P el;unfold stC at z V;go_wp2_with fail;refine V.mono ?_;rintro e W2 ⟨rfl,k⟩;replace ac:=ua (ac.later k);obtain⟨y,q,ly⟩:=(o.on k).x;have am:=ua (uf i k);have HZ:=ua k.size;generalize u.fail=v at *;clear k V z p lz;unfold st0 at y;rw[xp];generalize r:v.st.length=n2;generalize hl:v.log.length=l2;have ap:=ua r;have ao:=ua hl;clear r hl;unfold stC;go_wp2;refine bodyPost_ret (v:=stV v ka kc la lc d a g) ?_ rfl ?_
    ·rw[xp];simp[results,Tryz.f131,go_sem,stC,ap.out,ao.out, *]
    rw[HF.out];refine uop ac.out HZ ?_ ?_ ?_
    ·have R:¬XB X w wc (w.heap.size+1):=λq=>q.elim (λq=>by have:=q.2;omega) (λq=>by have:=q.1;omega)
     repeat with_reducible first|exact uko _ _|refine uoj ?_ _ _ _ R
    ·repeat with_reducible first|exact am.out|refine uK ?_ _ _ _ (by omega)
    simp only[uj];exact Nat.le_refl _
end Go.Proofs.YtimfigongapdnaaGreat
