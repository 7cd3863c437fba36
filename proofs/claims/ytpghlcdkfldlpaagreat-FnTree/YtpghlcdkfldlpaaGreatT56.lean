import Derived.Test.YtpghlcdkfldlpaaGreatT49
import Derived.Test.YtpghlcdkfldlpaaGreatT35
import Derived.Test.YtpghlcdkfldlpaaGreatT55
import Derived.Test.YtpghlcdkfldlpaaGreatT39
import Derived.Test.YtpghlcdkfldlpaaGreatRows
set_option linter.unusedVariables false
set_option linter.unusedSimpArgs false
set_option maxHeartbeats 40000000
set_option maxRecDepth 100000
namespace Go.Proofs.YtpghlcdkfldlpaaGreat
open Go.RowKit
open M (OpD ue Gr um EX ins)
theorem um9{nr a n B}(h:M.BodyOK nr a n B):0<n:=by
 by_cases e:n=0
 ·subst e;have:=h.2.2;simp[M.dep]at this
 omega
theorem uk2{n R il I fuel most s t}(h:Ends n R il I fuel most s t):Good most s->(s.steps:Int)<=fuel->Good most t/\(t.steps:Int)<=fuel:=by
 induction h with
 |over _=>exact λg k=>⟨g,k⟩
 |go a _ b=>exact λg k=>b (ub5 g) (ku a k).1
theorem una{g}(a:M.Sound g){il I o}(h:uq0 (pgN g) (pgI g) il I 20000 300 o)(b:o.code=0):unS o.ev o.vn/\(o.ev (o.vn-1)).pos=o.pos/\o.vn<=20000/\∃t,udW (pgN g) (pgI g) 20000 300/\Ends (pgN g) (pgI g) il I 20000 300 s0 t/\t.code=0/\t.log.length=o.vn/\(λi=>t.log.getD i ⟨0,0,0⟩)=o.ev:=by
 rcases h with⟨d,t,j,rfl⟩|⟨_,rfl⟩
 ·have c:t.code=0:=by
   unfold udV at b;split at b
   ·rename_i y;have e:t.code=0:=b;omega
   exact b
  have r:pgI g=uhn (vW g (g.nr+g.nb)):=by
   funext i;unfold pgI dat uhn;rw[List.getD_eq_getElem?_getD]
  have v:pgN g=(vW g (g.nr+g.nb)).length:=(kG g _).symm;have he':=j;rw[r,v]at he';have m:=um9 (a.rb 0 a.r1);have q:=unf (opG g) (trG g) (kz g) (g.nr+g.nb) (by have:=a.r1;omega) (by simp[kz,yd g a.r1,m]) (uc3 g) (by unfold opG;rw[if_pos a.r1];exact⟨rfl,rfl⟩) (λi s _=>M.tree_below (ujf a s));obtain⟨p,l,e,u,x⟩:=uiK q he' uiL c;obtain⟨n,z⟩:=uk2 j ⟨d.m0,Nat.le_refl _,λf k=>by simp[s0]at k,List.Pairwise.nil,λf k=>by simp[s0]at k⟩ d.f0;have w:udV t=⟨t.code,(t.pos:Int),if t.code=2 then t.label else 0,t.far,(rg t.exp 256).length,lf (rg t.exp 256),t.steps,t.throws,t.log.length,evL t.log⟩:=by
   unfold udV;rw[if_neg (by omega),if_pos (.inl c),if_pos c];rfl
  rw[w];refine⟨uf7 p,?_,?_,t,d,j,c,rfl,rfl⟩
  ·show(evL t.log (t.log.length-1)).pos=(t.pos:Int);rw[u,List.length_append,List.length_singleton,Nat.add_sub_cancel,evL,List.getD_eq_getElem?_getD,List.getElem?_append_right (Nat.le_refl _),Nat.sub_self];exact x
  have:=n.logs;show t.log.length<=20000;omega
 cases b
def urL(p:Nat×(Nat->Int))(h:Byt p.1 p.2)(b:p.1<=4000):Tx:=⟨p.1,λi=>if i<p.1 then p.2 i else 0,λi=>by
 split
 ·rename_i a;exact h i a
 omega,by omega⟩
theorem uo2{p:Nat×(Nat->Int)}{h:Byt p.1 p.2}{g:p.1<=4000}{Q w a}(c:Ints Q .u8 w a p.1 p.2):TxA Q w a (urL p h g):=by
 rcases c with e|⟨b,o,e,j,d⟩
 ·exact .inl e
 refine .inr ⟨b,o,e,j,λi f=>?_⟩;have hi':i<p.1:=f;show _=some (Value.int .u8 (if i<p.1 then p.2 i else 0));rw[if_pos hi'];exact d i hi'
theorem uk3{t c a g}(h:PRs t c a g)(b:c=0):M.Valid g:=by
 subst b;rcases h with⟨_,q,_⟩|⟨_,⟨p,_,q,_⟩|⟨f,_,h⟩⟩
 ·cases q
 ·cases q
 unfold xp at h;split at h
 ·cases h.1
 split at h
 ·cases h.1
 split at h
 ·cases h.1
 obtain⟨e,_,_,⟨d,_,_,rfl⟩|⟨_,q,_⟩⟩:=h
 ·exact d
 cases q
theorem uhi{g}(h:M.Sound g):vP g:=by
 have f:=h.r2;have k:=h.l2;have d:∀{n:Nat} {B:Nat->OpD},M.BodyOK g.nr g.nb n B->∀i,i<n->(B i).sl<=1048576:=λh i a=>Nat.le_trans (ujg (h.1 i a)) (by omega)
 have c:∀{n:Nat} {T:Nat->Int},M.NameOK n T->Byt n T:=λh i a=>by
  rcases h.2.1 i a with (q|q|q)|q
  ·omega
  ·omega
  ·omega
  obtain⟨l,m⟩:=q;omega
 refine⟨by omega,by omega,λi a=>⟨Nat.le_trans (h.rn i a).1 (by omega),c (h.rn i a),Nat.le_trans (ua6 h a) (by omega),d (h.rb i a)⟩,λi a=>⟨Nat.le_trans (h.ln i a).1 (by omega),c (h.ln i a),Nat.le_trans (ub2 h a) (by omega),?_⟩⟩;cases b:(g.lab i).has with
 |true=>exact d (h.lb i a b)
 |false=>rw[h.lz i a b];exact λj e=>absurd e (Nat.not_lt_zero _)
theorem uiI a n c w(h:4000<n)(f:n<=6000000) :
  Calls Tryz.prog 5 #[.slice a n c] w (λe w'=>e=.returned (.tuple #[.agg #[.slice none 0 0,.slice none 0 0],.int .i64 7,.int .i64 0])/\Below w.heap.size w w'):=by
 have b:(n:Int) > 4000:=by omega
 have d:=decide_eq_true b;go_enter Tryz.func5,Tryz.ntmps5;go_wp2;refine bodyPost_ret (v:=.tuple #[.agg #[.slice none 0 0,.slice none 0 0],.int .i64 7,.int .i64 0]) ?_ rfl ?_
 ·simp[results,Tryz.f5,go_sem]
 exact⟨rfl,uf _ _⟩
theorem uk4{Q w a c E n}(h:OwnC Q w (.slice a (num E n) c) 5 (num E n) (xU E n))(o:0<num E n):∃g,a=some ⟨g,0,none⟩/\Q g/\∀k,k<num E n->NdC w g (k*5) (ndN E n k):=by
 rcases h with⟨_,e,_⟩|⟨g,cap,e,m,q,p,f,r⟩
 ·omega
 refine⟨g,by injection e,m,λk l=>?_⟩;have d:=List.getElem?_eq_getElem l;have b:∀j,j<5->w.cell? ⟨g,k*5+j,none⟩=(ndv (ndN E n k))[j]?:=λj i=>by
  rw[f _ (by rw[uee];omega)];unfold xU ndN;rw[uci (λj=>ndv (ndI E n j)) _ k j _ (λ_ _=>uc0 _) d i,List.getD_eq_getElem?_getD,d];rfl
 exact⟨b 0 (by omega),b 1 (by omega),b 2 (by omega),b 3 (by omega),b 4 (by omega)⟩
def uqM(o:uhu)(a:Option Addr)(b:Nat)(c:Option Addr)(d:Nat):Array Value:=#[.int .i64 o.code,.int .i64 o.pos,.int .i64 o.label,.int .i64 o.far,.slice a o.en b,.int .i64 o.steps,.int .i64 o.throws,.slice c o.vn d]
def usb(w:World)(e:Ending)(w':World):Prop:=e=.returned (.bool true)/\Below w.heap.size w w'
theorem uqN Q a n c S w(hI:Ints Q .u8 w a n S)(I:Byt n S)(hc:n<=c)(bs:a=none->n=0/\c=0)(c6:n<=9223372036854775807) :
  Calls Tryz.prog 3 #[.slice a n c] w (usb w):=by
 by_cases h1:1048576<n
 ·have h1':(1048576:Int)<(n:Int):=by omega
  go_enter Tryz.func3,Tryz.ntmps3;go_wp2;go_ret;exact⟨rfl,Below.refl _ _⟩
 have h1':¬(1048576:Int)<(n:Int):=by omega
 have ac:Hid (∀W,Ints Q .u8 W a n S->Calls Tryz.prog 4 #[.slice a n c] W (DpF (dpT (ugk n S I)) W)):=λW hW=>uej Q a n c S W hW I (by omega) hc bs
 obtain⟨ai,aj⟩:=up6 (ugk n S I);generalize dpT (ugk n S I)=p at *;have HI:=ua hI;have aw:=ua aj;have ce:=ai.2;have cu:=aj.2;have b8:=ua ai.1;clear hI I hc bs ai aj h1;go_enter Tryz.func3,Tryz.ntmps3;go_wp2_with fail;refine(ac w HI).mono ?_;rintro e W1 ⟨a1,G,a2,Z,fu,sk,rfl,bg,bc,bn⟩;have a0:=ua bg;have r:=ua bc;have b:=ua bn.bel;clear bg bc bn;by_cases bl:4000<p.1.1
 ·go_wp2_with fail;refine(uiI a1 p.1.1 G W1 bl ce).mono ?_;rintro e W2 ⟨rfl,z⟩;replace b:=ua (ud b z);clear z;go_wp2;go_ret;exact⟨rfl,ud b (uf _ _)⟩
 obtain⟨t,ht,b3⟩:∃t:Tx,(∀(Q:Nat->Prop) (w:World) (a:Option Addr),Ints Q .u8 w a p.1.1 p.1.2->TxA Q w a t)/\t.n=p.1.1:=⟨urL p.1 b8 (by omega),λQ w a h=>uo2 h,rfl⟩;have HT:=ua ht;have ae:Hid (∀(Q:Nat->Prop) (W:World) (a:Option Addr) (c:Nat),Ints Q .u8 W a p.1.1 p.1.2->Calls Tryz.prog 5 #[.slice a p.1.1 c] W (xi t W)):=λQ W a c h=>by
  have:=uip Q t a c W (HT Q W a h);rwa [b3]at this
 clear ht b3 bl;go_wp2_with fail;refine(ae _ W1 a1 G a0).mono ?_;rintro e W2 ⟨code,at_,g,ra,rc,la,lc,bu,rfl,hX,aa⟩;have ax:=ua bu;have B:=ua (uw W2 #[.slice ra g.nr rc,.slice la g.nb lc] 28);have d:=uf W2 (.cells #[.slice ra g.nr rc,.slice la g.nb lc] 28);have F:=ua (hX.later d);replace b:=ua (ud (ud b aa.bel) d);replace r:=ua ((r.later aa.bel).later d);have de:=aa.size;clear bu hX aa d a0;go_upto_if 47 with fail;generalize W2.alloc _=W3 at *;by_cases e0:code=0
 ·subst e0;have u:=ua (uk3 ax rfl);have az:=ua (uhi u.sound);obtain⟨z3,p3,l3⟩:=B.x;go_wp2_with fail;refine(ukh _ ra la rc lc g u az W3 F).mono ?_;rintro e W4 ⟨a4,c4,rfl,be,ag⟩;have av:=ua be;replace b:=ua (ud b ag);replace r:=ua (r.later ag);clear be ag z3 p3 l3 B F;obtain⟨o,hD⟩:=uht (pgN g) (pgI g) p.2.1 p.2.2 20000 300;have HD:=ua hD;have b0:=uhS u.sound;have c9:=b0.1;clear hD b0;go_wp2_with fail;refine(uhw _ _ a4 (pgN g) c4 (pgI g) a2 p.2.1 Z p.2.2 20000 300 o W4 av ⟨by omega,by omega,by omega,by omega,(uhS u.sound).2⟩ (by omega) r aw.1 (by omega) HD).mono ?_;rintro e Y ⟨ea,ec,va,vc,rfl,bk⟩;replace b:=ua (ud b bk);clear bk av r;have l:=ua (uw Y (uqM o ea ec va vc) 37);replace b:=ua (ud b (uf Y (.cells (uqM o ea ec va vc) 37)));unfold uqM at l b;unfold ucK;go_upto_if 58 with fail;generalize Y.alloc _=W6 at *;generalize Y.heap.size=wb at *;by_cases H:o.code=0
  ·obtain⟨bt,bx,di,A,bz,bm,b2,R,O⟩:=una u.sound HD H;have E:=ua (And.intro bz (And.intro bm (And.intro b2 (And.intro R O))));have D:=ua bt;have ay:=ua bx;have f0:(o.code==0)=true:=(by simp[H]);clear bt bx H bz bm b2 R O;go_wp2_with fail;refine(ac W6 (HI.later b)).mono ?_;rintro e W7 ⟨a7,c7,a8,c8,cr,dm,rfl,bh,bf,ah⟩;have a3:=ua bh;have s:=ua bf;replace l:=ua (l.on ah.bel);replace b:=ua (ud b ah.bel);clear bh bf ah;go_wp2_with fail;refine(ae _ W7 a7 c7 a3).mono ?_;rintro e W8 ⟨cq,cp,g2,am,an,ak,al,bw,rfl,bi,bo⟩;obtain⟨rfl,_,rfl⟩:=uow ax bw;have B:=ua (uw W8 #[.slice am g.nr an,.slice ak g.nb al] 28);have d:=uf W8 (.cells #[.slice am g.nr an,.slice ak g.nb al] 28);have F:=ua (bi.later d);have L:=ud bo.bel d;replace b:=ua (ud b L);replace s:=ua (s.later L);replace l:=ua (l.on L);have dg:=L.size;clear bw bi bo d a3 L;go_upto_region 13 with fail;generalize W8.alloc _=W9 at *;obtain⟨z9,p9,l9⟩:=B.x;go_wp2_with fail;refine(uki _ am ak an al g u az W9 F).mono ?_;rintro e ca ⟨cc,cd,rfl,bd,J⟩;have au:=ua bd;replace b:=ua (ud b J);replace s:=ua (s.later J);replace l:=ua (l.on J);have dd:=J.size;clear bd J z9 p9 l9 B F;go_wp2_with fail;refine(umK _ _ cc (pgN g) cd (pgI g) a8 p.2.1 c8 p.2.2 20000 300 A ca au.out E.out.1 (by omega) s.out aw.1 (by omega) E.2.1 E.2.2.1 (λy q=>q.2) (λy q=>by have:=q.2;omega)).mono ?_;rintro e V ⟨a9,bb,ba,ao,ap,Q2,rfl,ab,bj⟩;obtain⟨_,_,_,R,O⟩:=E.out;rw[R]at ab ⊢;rw[O]at ab;have BO:=ua (uw V (oC 0 A.pos A a9 bb ba ao o.vn ap) 37);have d:=uf V (.cells (oC 0 A.pos A a9 bb ba ao o.vn ap) 37);have ad:=ua (ab.ev.later d);have z:=ud bj d;replace b:=ua (ud b.out z);replace l:=ua (l.out.on z);clear ab bj d z s au R O E;unfold oC at BO b l ad;unfold oC;go_upto_region 15 with fail;generalize V.alloc _=cb at *;generalize V.heap.size=ob at *;obtain⟨cn,ck,ci⟩:=BO.x;go_wp2_with fail;refine(ui7 _ ao o.vn ap o.ev cb ad (by omega) D.wh).mono ?_;rintro e af ⟨ta,tc,rfl,v⟩;obtain⟨bq,b4⟩:=ulk D;have cg:=uj8 o.ev o.vn;rw[D.out.wh.2]at cg;obtain⟨nb,rfl,c5,br⟩:=uk4 v.own bq;have ct:=yK v.own;have aq:=ua (l.on v.bel);replace b:=ua (ud b v.bel);have C:=ua br;have a5:=ua b4;have b7:Hid (∀i,i+1<num o.ev o.vn->∃q:Nat,(ndN o.ev o.vn (i+1)).par=(q:Int)/\q<i+1/\(ndN o.ev o.vn (i+1)).frm<=(ndN o.ev o.vn (i+1)).to/\(ndN o.ev o.vn q).frm<=(ndN o.ev o.vn (i+1)).frm/\(ndN o.ev o.vn (i+1)).to<=(ndN o.ev o.vn q).to/\fre o.ev o.vn q i<=(ndN o.ev o.vn (i+1)).frm):=λi hi=>upw D hi
   have cs:num o.ev o.vn<=20000:=(by omega);have a6:=C 0 bq;rw[a5.out,Nat.zero_mul]at a6;obtain⟨c0,G,Z,c3,c4⟩:=a6;rw[ay.out]at c3;simp only[Nat.zero_add]at G Z c3 c4;have dj:=ub c0;clear cn ck ci BO l ad br b4 v HD ac ae;generalize v:num o.ev o.vn=N at *;have cv:(N:Int)*2=(o.vn:Int):=(by omega);have cw:(0:Int)<(N:Int):=(by omega);have cx:¬N=0:=(by omega);have cy:((N:Int)==0)=false:=(by simp;omega);have cz:((o.vn:Int)==(o.vn:Int))=true:=(by simp);obtain⟨co,cm,cj⟩:=aq.x;go_upto_region 21 with fail;have d:=uf af (.cells #[.int .i64 0,.int .i64 0,.int .i64 0,.int .i64 o.pos,.int .i64 (-1)] 43);replace C:Hid (∀k,k<N->NdC (af.alloc (.cells #[.int .i64 0,.int .i64 0,.int .i64 0,.int .i64 o.pos,.int .i64 (-1)] 43)) nb (k*5) (ndN o.ev o.vn k)):=λk hk=>by
    obtain⟨U,y1,y2,y3,y4⟩:=C k hk;exact⟨uc U d,uc y1 d,uc y2 d,uc y3 d,uc y4 d⟩
   replace b:=ua (ud b d);have dh:=d.size;clear d c0 G Z c3 c4 co cm cj aq ay D a5;generalize af.alloc _=X at *;have cf:=run_make_row' (P:=Tryz.prog) 34 3 (.int .i64 0) 8 Tryz.underlying34 upH rfl .i64 .i64 N (by omega) (by omega);go_upto_region 23 with fail;clear cf;go_loopw [27] (λiv wr=>∃m:Nat,m+1<=N/\iv=.int .i64 ((m+1:Nat):Int)/\wr.rowIs X.heap.size 3 N (λq=>.int .i64 (fre o.ev o.vn q m))/\Below X.heap.size X wr) (λiv _=>N-(intOf iv).toNat)
   case atStart=>exact⟨0,by omega,rfl,World.rowIs_made X _ N 3,uf _ _⟩
   case round =>
    obtain⟨m,hm,rfl,T,f⟩:=hrel;have b9:=ua T;have b5:=ua f;have dl:=T.lt;by_cases bp:m+1<N
    ·have hlt':((m+1:Nat):Int)<(N:Int):=(by omega);obtain⟨q,k1,k2,k3,k4,k5,k6⟩:=b7 m bp;obtain⟨U,y1,y2,y3,y4⟩:=C (m+1) bp;obtain⟨v0,v1,v2,v3,v4⟩:=C q (by omega);replace U:=uc U f;replace y1:=uc y1 f;replace y2:=uc y2 f;replace y3:=uc y3 f;replace y4:=uc y4 f;replace v0:=uc v0 f;replace v1:=uc v1 f;replace v2:=uc v2 f;replace v3:=uc v3 f;replace v4:=uc v4 f;rw[k1]at y4;have ch:q<N:=(by omega);have r0:=T.cell ch;have r1:=T.frozen q;have b6:Hid (∀j,fre o.ev o.vn j (m+1)=if (q:Int)=(j:Int) then (ndN o.ev o.vn (m+1)).to else fre o.ev o.vn j m):=λj=>by rw[fre,k1]
     have da:¬(q:Int)<0:=(by omega);have db:¬((m+1:Nat):Int)<=(q:Int):=(by omega);have dc:(q:Int)<(N:Int):=(by omega);have dk:=ub U;clear T f k1;generalize fre o.ev o.vn q m=fr at *;generalize (ndN o.ev o.vn (m+1)).kind=x0 at *;generalize (ndN o.ev o.vn (m+1)).arg=x1 at *;generalize (ndN o.ev o.vn (m+1)).frm=x2 at *;generalize (ndN o.ev o.vn (m+1)).to=x3 at *;generalize (ndN o.ev o.vn q).kind=u0 at *;generalize (ndN o.ev o.vn q).arg=u1 at *;generalize (ndN o.ev o.vn q).frm=u2 at *;generalize (ndN o.ev o.vn q).to=u3 at *;generalize (ndN o.ev o.vn q).par=u4 at *;have t1:¬x3<x2:=(by omega);have A:¬x2<u2:=(by omega);have t3:¬u3<x3:=(by omega);have t4:¬x2<fr:=(by omega);go_wp2_with fail;go_quiet (fail);go_wp2;go_roundw
     case rel =>
      refine⟨m+1,by omega,by go_num,?_,uo (ud b5 (ud (vb wr _ _) (uaG _ _).bel)) _ _ _ (Nat.le_refl _)⟩;have hr:=(b9.alloc (.cells #[.int .i64 x0,.int .i64 x1,.int .i64 x2,.int .i64 x3,.int .i64 (q:Int)] 43)).alloc (.cells #[.int .i64 u0,.int .i64 u1,.int .i64 u2,.int .i64 u3,.int .i64 u4] 43);refine((hr.of_block ((uaG _ nq).block _ hr.lt (λe=>e))).set q (.int .i64 x3)).congr (λj hj=>?_);rw[b6.out j];by_cases e:j=q
      ·rw[if_pos e,if_pos (by omega)]
      rw[if_neg e,if_neg (by omega)]
     case measure=>simp[intOf];omega
    have hlt':¬((m+1:Nat):Int)<(N:Int):=(by omega);have HF:=ua (ud b f);go_wp2;go_ret;exact⟨rfl,HF⟩
  have f0:(o.code==0)=false:=by simp[H]
  clear H;go_wp2;go_ret;exact⟨rfl,b⟩
 have f0:(code==0)=false:=by simp[e0]
 clear e0;go_wp2;go_ret;exact⟨rfl,b⟩
namespace fnTree
open Go.ChangeShapes Go.WideShapes Go.ChangeAt Go.RowKit Go.Deep
theorem own:ownKnob Tryz.prog.godebug=none:=by kernel_rfl
theorem uo3:laidOutB Tryz.prog=true:=by kernel_rfl
theorem uo4:Tryz.prog.cellsOf 5=1:=by kernel_rfl
theorem uqO b off i:(⟨b,off,none⟩:Addr).add i=⟨b,off+i,none⟩:=by
 by_cases a:i=0
 ·subst a;simp[Addr.add]
 simp[Addr.add,a]
theorem uk5{H}{enc:TypeId×Value->H}{w k u o fuel cs}{x:DataW H×List MemPlace}(h:DataW.trod enc Tryz.prog w k u o fuel 22 cs=some x) :
  ∃a n c S,cs = [.slice a n c]/\Ints (λ_=>True) .u8 w a n S/\n<=9223372036854775807/\Byt n S/\n<=c/\(a=none->n=0/\c=0):=by
 rcases open_ints Tryz.underlying22 Tryz.underlying5 uo4 h with⟨rfl,_⟩|⟨a,f,cap,d,rfl,_,y,p,t,_,g,s⟩
 ·exact⟨none,0,0,λ_=>0,rfl,.inl rfl,by omega,(λi j=>by omega),Nat.le_refl _,λ_=>⟨rfl,rfl⟩⟩
 have z:f<=d.length:=by rw[t];split<;>omega
 have q:f<=9223372036854775807:=by have:=p;unfold maxLen at this;omega
 refine⟨some a,f,cap,λi=>d.getD i 0,rfl,?_,q,(λi j=>?_),by omega,λe=>by cases e⟩
 ·by_cases l:f=0
  ·exact .inl l
  obtain⟨b,off,v⟩:=a;have m:=g 0 (by omega);have r:v=none:=by simpa[Addr.add] using World.cell?_spot m
  subst r;refine .inr ⟨b,off,rfl,trivial,λi j=>?_⟩;have:=g i (by omega);rwa [uqO]at this
 have hi':i<d.length:=by omega
 have:d.getD i 0∈d:=by
  rw[List.getD_eq_getElem?_getD,List.getElem?_eq_getElem hi'];exact List.getElem_mem hi'
 exact bounds_u8 (s _ this)
theorem uqP z(L:z.Started)H(enc:TypeId×Value->H) :
  ReturnsInHanded {} Tryz.checked z 3 .any (Rows.fnTreeSpec.pre6 enc Tryz.prog Tryz.f3 Rows.fnTreeRow.domain false) (Rows.fnTreeSpec.post enc Tryz.prog Tryz.f3 false true false false):=by
 refine returnsInHanded_of_change (C:=Tryz.checked) own L (by kernel_rfl) Tryz.func3
  (ChangeSpec.witness6 (enc:=enc) (C:=Tryz.checked) false ⟨#[],#[.slice none 0 0],[]⟩ 8 (by kernel_rfl) (by kernel_rfl) (by kernel_rfl) (by kernel_rfl)) ?_
 intro W O args R U P w u X _;have v:=w;have hW':=u;obtain⟨p,q,t,B,rfl,Y,Z⟩:=u;have s:=t;rw[Tryz.params3]at s v;obtain⟨A,aa,Q,T,I,q0,V,rfl,rfl,r,J⟩:=trodAll_cons s;obtain⟨rfl,rfl,rfl⟩:=trodAll_nil J;obtain rfl:args=#[A]:=by cases args;simp_all
 obtain⟨rfl,rfl⟩:=trodVars_none B;obtain⟨d,b,f,rfl⟩:=okWide_slice Tryz.underlying22 (v 0 22 A rfl rfl);have y:=r;have G:∀x∈I,x.block<W.heap.size:=by obtain⟨m,F⟩:=y;exact DataW.trod_lt m _ _ _ F
 obtain⟨S,i,k,g,j,l⟩:∃S:Nat->Int,Ints (λ_=>True) .u8 W d b S/\b<=9223372036854775807/\Byt b S/\b<=f/\(d=none->b=0/\f=0):=by
  obtain⟨fuel,E⟩:=r;obtain⟨a,n,c,S,e,i,k,g,j,l⟩:=uk5 E;simp[Value.cells]at e;obtain⟨rfl,rfl,rfl⟩:=e;exact⟨S,i,k,g,j,l⟩
 clear t w;refine(uqN (λ_=>True) d b f S W i g j l k).mono λe N ⟨D,o⟩=>?_
 subst D;exact⟨_,rfl,_,_,_,[],_,[],hW',trodAll_mk1 (shut_bool Tryz.underlying4 _),(trodAll_cons_mk (Below.trod uo3 (by kernel_rfl) (of_decide_eq_true (by kernel_rfl)) y o G) trodAll_mk0),rfl,o.frame _,λh=>by cases h⟩
theorem over:Rows.fnTreeRow.holds Tryz.pinned (OpenSpec.ofChange Rows.fnTreeSpec) :=
 OpenClaim.holds_of_wide 3 Tryz.f3 rfl rfl rfl rfl rfl rfl rfl ⟨rfl,rfl,rfl,rfl,rfl⟩ rfl rfl rfl rfl rfl (by kernel_rfl) Tryz.func3 (by kernel_rfl)
  (of_decide_eq_true (by kernel_rfl)) (by unfold Func.isWrapper;first|(rw[if_pos (by decide +kernel)];kernel_rfl)|(rw[if_neg (by decide +kernel)];exact⟨rfl,rfl⟩))
  (λa b H enc _=>uqP a b H enc)
end fnTree
section
theorem fnTree_holds:Rows.FnTreeSaid:=fnTree.over
end
end Go.Proofs.YtpghlcdkfldlpaaGreat
