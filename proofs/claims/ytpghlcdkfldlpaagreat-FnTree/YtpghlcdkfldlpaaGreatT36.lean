import Derived.Test.YtpghlcdkfldlpaaGreatT17
import Derived.Deep.WholeRow
set_option linter.unusedVariables false
set_option linter.unusedSimpArgs false
set_option maxHeartbeats 40000000
set_option maxRecDepth 100000
namespace Go.Proofs.YtpghlcdkfldlpaaGreat
open Go.RowKit Go.Shelf
attribute [local go_sem] Oper.semAt_some
def ujQ(S:Nat->Int)(p:Nat):Array Value:=#[.int .i64 (S (2*p)),.int .i64 (S (2*p+1))]
def uiF(a b n:Nat)(k:Nat):Prop:=k=a\/(k=b/\0<n)
def uoY(w W:World)(n a b:Nat)(J:Nat->World->Prop)(i:Value)(wr:World):Prop :=
 ∃p:Nat,2*p<=n+1/\i=.int .i64 (2*(p:Int)+1)/\J p wr/\W.heap.size<=wr.heap.size/\∀k,uiF a b n k->wr.heap[k]?=w.heap[k]?
theorem ucp d a n c S b j w(hn:n<=1048576)(x:w.cell? ⟨d,0,none⟩=some (.slice a n c))(P:0<n->a=some ⟨b,j,none⟩)(N:∀i,i<n->w.cell? ⟨b,j+i,none⟩=some (.int .i64 (S i))) :
  um8 Tryz.prog 149 #[.pointer (some ⟨d,0,none⟩)] (0:Nat) (λp=>2*p+1<n) (λp=>p+1) (ujQ S) (uiF d b n) w:=by
 intro l C J y W af B E aa F ab O A;have ac:Fence.wide.depth=none:=rfl;have m:=ua N;have R:=ub x;have ae:Tryz.prog.follows .mixedOrders=true:=by kernel_rfl
 refine callsIn_of_wp Tryz.func149 rfl trivial ?_ rfl;simp only[Tryz.ntmps149,List.size_toArray,List.length_cons,List.length_nil,Nat.reduceAdd,Nat.reduceSub,Array.replicate_succ,Array.replicate_zero,List.push_toArray,List.append_toArray,List.nil_append,List.cons_append]
 gi_wp2
 gi_loopw [3] (λi wr=>uoY w W n d b J i wr) (λi _=>n+2-(intOf i).toNat)
 case atStart=>exact⟨0,by omega,rfl,A,Nat.le_refl _,B⟩
 case round =>
  obtain⟨p,hp,rfl,u,U,f⟩:=hrel;have ag:=(World.cell?_of_block (a:=⟨d,0,none⟩) (f d (.inl rfl))).trans x;by_cases r:2*p+1<n
  ·obtain rfl:=P (by omega);have Y:=(World.cell?_of_block (a:=⟨b,j+2*p,none⟩) (f b (.inr ⟨rfl,by omega⟩))).trans (m (2*p) (by omega));have Z:=(World.cell?_of_block (a:=⟨b,j+(2*p+1),none⟩) (f b (.inr ⟨rfl,by omega⟩))).trans (m (2*p+1) r);have hlt':2*(p:Int)+1<(n:Int):=(by omega);have ad:2*(p:Int)<(n:Int):=(by omega);have t1:(2*(p:Int)).toNat=2*p:=(by omega);have t2:(2*(p:Int)+1).toNat=2*p+1:=(by omega);have w1:IntKind.i64.wrap (2*(p:Int)+1-1)=2*(p:Int):=(by rw[show 2*(p:Int)+1-1=2*(p:Int) by omega,IntKind.wrap_i64];omega);have w2:IntKind.i64.wrap (2*(p:Int))=2*(p:Int):=(by rw[IntKind.wrap_i64];omega);have z1:(0:Int)<=2*(p:Int):=(by omega);have z2:(0:Int)<=2*(p:Int)+1:=(by omega);have H:=F p wr wr.drew u (Below.refl _ wr).drew;obtain⟨fn,tmps,X,body,V,L⟩:=O p _ H r;unfold ujQ at V;have hR':=L.mono (R':=λe z=>∃bv:Bool,e=.returned (.bool bv)/\Keep C wr.drew z/\((bv=true/\J (p+1) z)\/(bv=false/\y p z))) (by
    rintro e z (⟨rfl,o,q⟩|⟨rfl,o,q⟩)
    ·exact⟨true,rfl,q,.inl ⟨rfl,o⟩⟩
    exact⟨false,rfl,q,.inr ⟨rfl,o⟩⟩)
   have t:=ua f
   gi_wp2
   gi_region_with_o (refine hR'.mono ?_;rintro e z ⟨bv,rfl,s⟩)
   all_goals
    obtain⟨v,s⟩:=s;rcases s with⟨rfl,G⟩|⟨rfl,I⟩
    ·have D:∀k,uiF d b n k->z.heap[k]?=w.heap[k]?:=λk g=>by
      have Q:k<wr.heap.size:=by
       have e:=t k g;have:w.heap[k]?.isSome:=by
        rcases g with rfl|⟨rfl,T⟩
        ·simp[R]
        have:=ub (m 0 T);simp[this]
       rw[<-e]at this;rcases Nat.lt_or_ge k wr.heap.size with h|h
       ·exact h
       simp[h]at this
      exact(v.block k Q (E k g)).trans (t k g)
     gi_wp2
     go_roundw
     case rel=>exact⟨p+1,by omega,by go_num,G,Nat.le_trans U v.size,D⟩
     case measure=>simp[intOf];omega
    gi_wp2
    refine bodyPost_ret (results_none rfl _ _ _) rfl ?_;exact⟨⟨_,rfl⟩,.inr ⟨p,r,I⟩⟩
  have hlt':¬2*(p:Int)+1<(n:Int):=by omega
  gi_wp2
  go_end0;exact⟨⟨_,rfl⟩,.inl ⟨p,by omega,u⟩⟩
theorem uhe a n c w :
  CallsIn Fence.wide 0 Tryz.prog 145 #[.slice a n c] w λe w'=>e=.returned (.func (.func 149) #[] #[.pointer (some ⟨w.heap.size,0,none⟩)])/\w'=w.alloc (.cells #[.slice a n c] 34):=by
 refine callsIn_of_wp Tryz.func145 rfl trivial ?_ rfl;simp only[Tryz.ntmps145,List.size_toArray,List.length_cons,List.length_nil,Nat.reduceAdd,Nat.reduceSub,Array.replicate_succ,Array.replicate_zero,List.push_toArray,List.append_toArray,List.nil_append,List.cons_append]
 gi_wp2
 go_ret;exact⟨rfl,rfl⟩
structure HoOwn(w:World)(y:Nat)(b:Int)(x:World):Prop where
 byte:x.cell? ⟨y,0,none⟩=some (.int .i64 b)
 res:∃v,x.cell? ⟨y+1,0,none⟩=some v
 resf:x.frozen? ⟨y+1,0,none⟩=false
 bel:Below y w x
 size:y+3<=x.heap.size
theorem HoOwn.below{w y b x z}(h:HoOwn w y b x)(a:Below (y+3) x z):HoOwn w y b z :=
 ⟨(a.cell (p:=⟨y,0,none⟩) (by show y<y+3;omega)).trans h.byte,h.res.imp λ_ c=>(a.cell (p:=⟨y+1,0,none⟩) (by show y+1<y+3;omega)).trans c,
  (a.frozen (p:=⟨y+1,0,none⟩) (by show y+1<y+3;omega)).trans h.resf,h.bel.trans (a.mono (by omega)),Nat.le_trans h.size a.size⟩
theorem HoOwn.answer{w y b x}(h:HoOwn w y b x)r:Below y w (x.setCell ⟨y+1,0,none⟩ (.bool r))/\y+3<=(x.setCell ⟨y+1,0,none⟩ (.bool r)).heap.size/\(x.setCell ⟨y+1,0,none⟩ (.bool r)).cell? ⟨y+1,0,none⟩=some (.bool r) :=
 ⟨h.bel.setCell (p:=⟨y+1,0,none⟩) (by show y<=y+1;omega) _,by simpa[World.setCell] using h.size,by obtain⟨v,a⟩:=h.res;exact World.cell?_setCell_same' _ _ _ (by rw[a];rfl)⟩
def ur9(w:World)(n:Nat)(S:Nat->Int)(b:Int)(p:Nat)(x:World):Prop:=HoOwn w w.heap.size b x/\2*p<=n+1/\yh S b p=false
def usa(w:World)(n:Nat)(S:Nat->Int)(b:Int)(a:Code)(p:Nat)(x:World):Prop :=
 a=.ret/\Below w.heap.size w x/\w.heap.size+3<=x.heap.size/\x.cell? ⟨w.heap.size+1,0,none⟩=some (.bool true)/\2*p+1<n/\yh S b (p+1)=true
theorem uhf a n c S b y C w(hn:n<=1048576)(ha:0<n->a=some ⟨y,C,none⟩)(W:∀i,i<n->w.cell? ⟨y,C+i,none⟩=some (.int .i64 (S i))) :
  CallsIn Fence.wide 0 Tryz.prog 133 #[.slice a n c,.int .i64 b] w (xX (vA n S b) w):=by
 have aj:Fence.wide.depth=none:=rfl;have HS:=ua W;have Z:0<n->y<w.heap.size:=λh=>ub (W 0 h)
 refine callsIn_of_wp_marks Tryz.func133 rfl trivial ?_ rfl;simp only[Tryz.ntmps133,List.size_toArray,List.length_cons,List.length_nil,Nat.reduceAdd,Nat.reduceSub,Array.replicate_succ,Array.replicate_zero,List.push_toArray,List.append_toArray,List.nil_append,List.cons_append]
 gi_wp2_with (refine⟨trivial,?_⟩;gi_at_call 145;refine(uhe _ _ _ _).mono ?_;rintro e w' ⟨rfl,rfl⟩)
 obtain⟨o,g⟩:=nm (((w.alloc (Obj.cells #[Value.int IntKind.i64 b] 3)).alloc (Obj.cells #[Value.bool false] 4)).alloc (Obj.cells #[Value.slice a n c] 34));have aq:o.heap.size=w.heap.size+3:=by rw[<-g];simp
 have V:Below w.heap.size w o:=by rw[<-g];exact(((Below.refl _ w).alloc (Nat.le_refl _) _).alloc (by simp) _).alloc (by simp;omega) _
 have X:=kt w (.int .i64 b) 3;have R:=kt (w.alloc (Obj.cells #[Value.int IntKind.i64 b] 3)) (.bool false) 4;have aa:=ubY (w.alloc (Obj.cells #[Value.int IntKind.i64 b] 3)) (.bool false) 4;have T:=kt ((w.alloc (Obj.cells #[Value.int IntKind.i64 b] 3)).alloc (Obj.cells #[Value.bool false] 4)) (.slice a n c) 34;simp only[World.size_alloc]at X R aa T;rw[g]at T;have ai:HoOwn w w.heap.size b o:=⟨by rw[<-g];exact uv _ (uv _ X),⟨_,by rw[<-g];exact uv _ R⟩,by rw[<-g];exact vC _ R aa,V,by omega⟩;have sW:∀i,i<n->o.cell? ⟨y,C+i,none⟩=some (.int .i64 (S i)):=λi hi=>uc (HS i hi) V
 rw[g];refine uas (gf:=149) (lb:=#[.pointer (some ⟨w.heap.size+1+1,0,none⟩)]) rfl (enters_of Tryz.func149 (by kernel_rfl) rfl)
  (ucp (w.heap.size+1+1) a n c S y C o hn T ha sW) (λ_=>rfl) ?hD (λk=>k=w.heap.size+1) ?hCD ?hCw
  (ur9 w n S b) (usa w n S b) ?hI ?hIx ?h0 ?round ?done ?stop
 case hD =>
  rintro k (rfl|⟨rfl,P⟩)
  ·omega
  have:=Z P;omega
 case hCD =>
  rintro k (rfl|⟨rfl,P⟩) N
  ·omega
  have:=Z P;omega
 case hCw =>
  rintro k hk N;omega
 case hI =>
  rintro s A E ⟨f,Q⟩ r;exact⟨f.below (r.mono (by omega)),Q⟩
 case hIx =>
  rintro cd s A E ⟨rfl,L,hs,N,Q⟩ r;exact⟨rfl,L.trans (r.mono (by omega)),Nat.le_trans hs r.size,(r.cell (p:=⟨w.heap.size+1,0,none⟩) (by show w.heap.size+1<_;omega)).trans N,Q⟩
 case h0=>exact⟨ai,by omega,rfl⟩
 case round =>
  intro l' p x am an ab ad;unfold ujQ
  gi_wp2
  refine⟨Keep.refl _ _,ab,?_⟩;rintro x2 al ao ⟨f,Y,j⟩;obtain⟨rv,k1⟩:=f.res;have k2:=f.resf;have k3:=f.byte;have U:=ua j;have D:=ua f;obtain⟨u,hu⟩:=nm (S (2*p));obtain⟨v,hv⟩:=nm (S (2*p+1));have F:=ua hu;have G:=ua hv;rw[hu,hv];have ae:=ad;by_cases q1:u<=b
  ·by_cases q2:b<=v
   ·have l:Hid (yh S b (p+1)=true):=by show _=_;rw[yh,F.out,G.out];simp[q1,q2]
    gi_wp2
    obtain⟨H,I,J⟩:=D.answer true;exact⟨Keep.setCell _ _ _ rfl,rfl,H,I,J,ae,l⟩
   have l:Hid (yh S b (p+1)=false):=by show _=_;rw[yh,F.out,G.out,U.out];simp[q2]
   gi_wp2
   exact⟨Keep.refl _ _,D,by omega,l⟩
  have l:Hid (yh S b (p+1)=false):=by show _=_;rw[yh,F.out,G.out,U.out];simp[q1]
  gi_wp2
  exact⟨Keep.refl _ _,D,by omega,l⟩
 case done =>
  rintro d p x hd ag ⟨f,Y,j⟩ z;obtain⟨rv,k1⟩:=f.res;have k2:=f.resf;have hnm':=ag
  gi_wp2
  have af:d≠w.heap.size+1:=by omega
  have hK':(x.setCell ⟨w.heap.size+1,0,none⟩ (.bool false)).heap[d]?=some (.deferred (some [])):=(Below.heap_setCell x ⟨w.heap.size+1,0,none⟩ _ d af).trans z;refine⟨by simp,.inl ⟨_,_,rfl,run_takeDeferred hK',?_⟩⟩;obtain⟨H,I,J⟩:=f.answer false;have t:=kP (B:=w.heap.size+3) (x.setCell ⟨w.heap.size+1,0,none⟩ (.bool false)) (.deferred none) (d:=d) (by omega) I;have O:=(t.cell (p:=⟨w.heap.size+1,0,none⟩) (by show w.heap.size+1<_;omega)).trans J;have hF:vA n S b=false:=by
   unfold vA;cases q:yh S b (n / 2) with
   |false=>rfl
   |true=>rw[uaw S b (by omega) q]at j;cases j
  refine⟨.bool false,?_,by rw[hF],H.trans (t.mono (by omega))⟩;simp[results,Tryz.f133,go_sem,O]
 case stop =>
  rintro d cd p x hd ap ⟨rfl,L,ah,ac,Y,j⟩ z
  gi_wp2
  refine⟨by simp,.inl ⟨_,_,rfl,run_takeDeferred z,?_⟩⟩;have ak:=(Array.getElem?_eq_some_iff.1 z).1;have t:=kP (B:=w.heap.size+3) x (.deferred none) (d:=d) (by omega) ah;have O:=(t.cell (p:=⟨w.heap.size+1,0,none⟩) (by show w.heap.size+1<_;omega)).trans ac;have hT:vA n S b=true:=uaw S b (m:=p+1) (by omega) j;refine⟨.bool true,?_,by rw[hT],L.trans (t.mono (by omega))⟩;simp[results,Tryz.f133,go_sem,O]
theorem ukW Q a n c S b w(e:n<=1048576)(d:Ints Q .i64 w a n S) :
  Calls Tryz.prog 133 #[.slice a n c,.int .i64 b] w (xX (vA n S b) w):=by
 rcases d with rfl|⟨f,g,rfl,j,d⟩
 ·exact callsIn_wide.1 (uhf a 0 c S b 0 0 w e (λh=>absurd h (by omega)) (λi h=>absurd h (by omega)))
 exact callsIn_wide.1 (uhf _ n c S b f g w e (λ_=>rfl) d)
attribute [local go_sem] Oper.semAt_some
def kO(f:Nat->Int):Nat->Int
 |0=>0
 |n+1=>kO f n+f n
theorem ug7(f g:Nat->Int)(n:Nat):kO (fun j=>f j+g j) n=kO f n+kO g n:=by
 induction n with
 |zero=>rfl
 |succ n ih=>rw[kO,kO,kO,ih];omega
theorem ue2(n:Nat):kO (fun _=>0) n=0:=by
 induction n with
 |zero=>rfl
 |succ n ih=>rw[kO,ih];rfl
theorem ujI(c:Int)(k n:Nat):kO (fun j=>if j=k then c else 0) n=if k<n then c else 0:=by
 induction n with
 |zero=>simp[kO]
 |succ n ih =>
  rw[kO,ih];by_cases h:k<n
  ·have h2:k<n+1:=by omega
   have h3:¬n=k:=by omega
   simp[h,h2,h3]
  ·by_cases e:n=k
   ·subst e;simp
   ·have h2:¬k<n+1:=by omega
    simp[h,h2,e]
def plo(S:Nat->Int)(p:Nat):Int:=max (S (2*p)) 0
def phi(S:Nat->Int)(p:Nat):Int:=min (S (2*p+1)) 255
def dlt(S:Nat->Int)(p i:Nat):Int :=
 if plo S p<=phi S p then (if i=(plo S p).toNat then 1 else 0)+(if i=(phi S p).toNat+1 then -1 else 0) else 0
def chg(S:Nat->Int):Nat->Nat->Int
 |0,_=>0
 |p+1,i=>chg S p i+dlt S p i
theorem uaq(S:Nat->Int):∀(p i:Nat),-(p:Int)<=chg S p i/\chg S p i<=p
 |0,i=>⟨Int.le_refl _,Int.le_refl _⟩
 |p+1,i=>by
  have:=uaq S p i;rw[chg];unfold dlt;split
  ·split<;>split<;>omega
  ·omega
theorem uoV(S:Nat->Int)(p b:Nat)(hb:b<256):kO (dlt S p) (b+1)=if S (2*p)<=b/\(b:Int)<=S (2*p+1) then 1 else 0:=by
 by_cases h:plo S p<=phi S p
 ·have e:dlt S p=fun i=>(if i=(plo S p).toNat then 1 else 0)+(if i=(phi S p).toNat+1 then -1 else 0):=by funext i;unfold dlt;rw[if_pos h]
  rw[e,ug7,ujI,ujI];have h1:0<=plo S p:=Int.le_max_right _ _;have h2:phi S p<=255:=Int.min_le_right _ _;unfold plo phi at *;by_cases q1:S (2*p)<=b
  ·by_cases q2:(b:Int)<=S (2*p+1)
   ·rw[if_pos (by omega),if_neg (by omega),if_pos ⟨q1,q2⟩];rfl
   ·rw[if_pos (by omega),if_pos (by omega),if_neg (fun q=>q2 q.2)];rfl
  ·rw[if_neg (by omega),if_neg (by omega),if_neg (fun q=>q1 q.1)];rfl
 ·have e:dlt S p=fun i=>0:=by funext i;unfold dlt;rw[if_neg h]
  rw[e,ue2];unfold plo phi at h;rw[if_neg];rintro⟨q1,q2⟩;omega
theorem ujJ(S:Nat->Int)(b:Nat)(hb:b<256):∀p:Nat,0<=kO (chg S p) (b+1)/\(0<kO (chg S p) (b+1)↔yh S (b:Int) p=true)
 |0=>by
  have e:chg S 0=fun _=>0:=rfl
  rw[e,ue2];simp[yh]
 |p+1=>by
  obtain⟨h1,h2⟩:=ujJ S b hb p;have e:chg S (p+1)=fun i=>chg S p i+dlt S p i:=rfl
  rw[e,ug7,uoV S p b hb,yh];by_cases q:S (2*p)<=b/\(b:Int)<=S (2*p+1)
  ·rw[if_pos q]
   refine⟨by omega,fun _=>?_,fun _=>by omega⟩
   simp[q.1,q.2]
  ·rw[if_neg q]
   refine⟨by omega,?_⟩
   rw[Int.add_zero,h2];have:(decide (S (2*p)<=(b:Int))&&decide ((b:Int)<=S (2*p+1)))=false:=by
    simp only[Bool.and_eq_false_iff,decide_eq_false_iff_not];by_cases r:S (2*p)<=(b:Int)
    ·exact .inr (fun r2=>q ⟨r,r2⟩)
    ·exact .inl r
   rw[this,Bool.or_false]
theorem ue3(S:Nat->Int)(p:Nat):∀n:Nat,-((n*p:Nat):Int)<=kO (chg S p) n/\kO (chg S p) n<=((n*p:Nat):Int)
 |0=>by simp[kO]
 |n+1=>by
  have h1:=ue3 S p n;have h2:=uaq S p n;rw[kO,Nat.add_mul,Nat.one_mul,Int.natCast_add];omega
theorem uoW:(Tryz.prog.info? 219).map (fun i=>(i.zero,i.size))=some (some (.agg (madeCells #[.int .i64 0] 257)),257):=by kernel_rfl
structure AdOwn(w:World)(f:Nat->Int)(x:World):Prop where
 row:x.rowIs w.heap.size 219 257 (fun i=>.int .i64 (f i))
 bel:Below w.heap.size w x
 size:w.heap.size+2<=x.heap.size
theorem AdOwn.below{w:World}{f:Nat->Int}{x z:World}(h:AdOwn w f x)(hb:Below (w.heap.size+2) x z):AdOwn w f z :=
 ⟨h.row.of_block (hb.block _ (by omega)),h.bel.trans (hb.mono (by omega)),Nat.le_trans h.size hb.size⟩
def adI(w:World)(n:Nat)(S:Nat->Int)(p:Nat)(x:World):Prop:=AdOwn w (chg S p) x/\2*p<=n
structure umH(mb o:Nat)(N:Nat->Bool)(w:World)(e:Ending)(w':World):Prop where
 val:∃v,e=.returned v
 mem:∀i,i<256->w'.cell? ⟨mb,o+i,none⟩=some (.bool (N i))
 rest:∀j,(j<o\/o+256<=j)->w'.cell? ⟨mb,j,none⟩=w.cell? ⟨mb,j,none⟩
 frz:∀j,w'.frozen? ⟨mb,j,none⟩=w.frozen? ⟨mb,j,none⟩
 kept:Kept (fun x=>x=mb) w w'
structure AdR(w:World)(mb o k:Nat)(S:Nat->Int)(p:Nat)(M:Nat->Bool)(d:Nat)(x:World):Prop where
 row:x.rowIs w.heap.size 219 257 (fun i=>.int .i64 (chg S p i))
 mem:∀i,i<256->x.cell? ⟨mb,o+i,none⟩=some (.bool (if i<k then yh S (i:Int) p||M i else M i))
 rest:∀j,(j<o\/o+256<=j)->x.cell? ⟨mb,j,none⟩=w.cell? ⟨mb,j,none⟩
 frz:∀j,x.frozen? ⟨mb,j,none⟩=w.frozen? ⟨mb,j,none⟩
 kept:Kept (fun x=>x=mb) w x
 size:w.heap.size+2<=x.heap.size
 dd:x.heap[d]? = some (.deferred (some []))
def adL(w:World)(mb o:Nat)(S:Nat->Int)(p:Nat)(M:Nat->Bool)(d:Nat)(ov iv:Value)(x:World):Prop :=
 ∃k:Nat,k<=256/\iv=.int .i64 (k:Int)/\ov=.int .i64 (kO (chg S p) k)/\AdR w mb o k S p M d x
theorem AdR.yes{w:World}{mb o k:Nat}{S:Nat->Int}{p:Nat}{M:Nat->Bool}{d:Nat}{x:World}(h:AdR w mb o k S p M d x)(hk:k<256)(hmb:mb<w.heap.size)(hd:w.heap.size+2<=d)(hh:yh S (k:Int) p=true):AdR w mb o (k+1) S p M d (x.setCell ⟨mb,o+k,none⟩ (.bool true)):=by
 refine⟨h.row.of_block (Below.heap_setCell _ _ _ _ (by show w.heap.size≠mb;omega)),fun i hi=>?_,fun j hj=>?_,fun j=>(World.frozen?_setCell _ _ _ _).trans (h.frz j),⟨h.kept.os,h.kept.tape,h.kept.output,by rw[uh];exact h.kept.size,fun b hb hn=>(Below.heap_setCell _ _ _ _ hn).trans (h.kept.block b hb hn)⟩,by rw[uh];exact h.size,(Below.heap_setCell _ _ _ _ (by show d≠mb;omega)).trans h.dd⟩
 ·by_cases e:i=k
  ·subst e
   rw[uA (h.mem i hi),if_pos (by omega),hh];rfl
  ·rw[uz (by omega),h.mem i hi]
   by_cases q:i<k
   ·rw[if_pos q,if_pos (by omega)]
   ·rw[if_neg q,if_neg (by omega)]
 ·rw[uz (by omega)];exact h.rest j hj
theorem AdR.no{w:World}{mb o k:Nat}{S:Nat->Int}{p:Nat}{M:Nat->Bool}{d:Nat}{x:World}(h:AdR w mb o k S p M d x)(hk:k<256)(hh:yh S (k:Int) p=false):AdR w mb o (k+1) S p M d x:=by
 refine⟨h.row,fun i hi=>?_,h.rest,h.frz,h.kept,h.size,h.dd⟩
 rw[h.mem i hi];by_cases e:i=k
 ·subst e
  rw[if_neg (by omega),if_pos (by omega),hh,Bool.false_or]
 ·by_cases q:i<k
  ·rw[if_pos q,if_pos (by omega)]
  ·rw[if_neg q,if_neg (by omega)]
theorem ucn(mb o:Nat)(M:Nat->Bool)(a:Option Addr)(n c:Nat)(S:Nat->Int)(sb so:Nat)(w:World)(hn:n<=1048576)(ha:0<n->a=some ⟨sb,so,none⟩)(hS:∀i,i<n->w.cell? ⟨sb,so+i,none⟩=some (.int .i64 (S i)))
  (hM:∀i,i<256->w.cell? ⟨mb,o+i,none⟩=some (.bool (M i))) (hF:∀j,w.frozen? ⟨mb,j,none⟩=false) :
  CallsIn Fence.wide 0 Tryz.prog 146 #[.pointer (some ⟨mb,o,none⟩),.slice a n c] w (umH mb o (fun i=>vA n S (i:Int)||M i) w):=by
 have hdep:Fence.wide.depth=none:=rfl;have HS:=ua hS;have HM:=ua hM;have HF:=ua hF;have hll:0<n->sb<w.heap.size:=fun h=>ub (hS 0 h)
 have hmb:=ub (hM 0 (by omega))
 have hz:=(zero_of_info (P:=Tryz.prog) uoW).1;refine callsIn_of_wp_marks Tryz.func146 rfl trivial ?_ rfl;simp only[Tryz.ntmps146,List.size_toArray,List.length_cons,List.length_nil,Nat.reduceAdd,Nat.reduceSub,Array.replicate_succ,Array.replicate_zero,List.push_toArray,List.append_toArray,List.nil_append,List.cons_append]
 gi_wp2_with (refine⟨trivial,?_⟩;gi_at_call 145;refine (uhe _ _ _ _).mono ?_;rintro e w' ⟨rfl,rfl⟩)
 obtain⟨Wl,hWl⟩:=nm ((w.alloc (Obj.cells (madeCells #[Value.int IntKind.i64 0] 257) 219)).alloc (Obj.cells #[Value.slice a n c] 34));have sWl:Wl.heap.size=w.heap.size+2:=by rw[<-hWl];simp
 have bWl:Below w.heap.size w Wl:=by rw[<-hWl];exact vb w _ _
 have hm:=World.rowIs_made w (.int .i64 0) 257 219;have hx:=kt (w.alloc (Obj.cells (madeCells #[Value.int IntKind.i64 0] 257) 219)) (.slice a n c) 34;simp only[World.size_alloc]at hx;rw[hWl]at hx;have oWl:AdOwn w (chg S 0) Wl:=⟨by rw[<-hWl];exact (hm.alloc _).congr (fun i hi=>rfl),bWl,by omega⟩
 have sW:∀i,i<n->Wl.cell? ⟨sb,so+i,none⟩=some (.int .i64 (S i)):=fun i hi=>uc (HS i hi) bWl
 rw[hWl];refine uas (gf:=149) (lb:=#[.pointer (some ⟨w.heap.size+1,0,none⟩)]) rfl (enters_of Tryz.func149 (by kernel_rfl) rfl)
  (ucp (w.heap.size+1) a n c S sb so Wl hn hx ha sW) (fun _=>rfl) ?hD (fun k=>k=w.heap.size) ?hCD ?hCw
  (adI w n S) (fun _ _ _=>False) ?hI ?hIx ?h0 ?round ?done ?stop
 case hD =>
  rintro k (rfl | ⟨rfl,hm0⟩)
  ·omega
  ·have:=hll hm0;omega
 case hCD =>
  rintro k (rfl | ⟨rfl,hm0⟩) hc
  ·omega
  ·have:=hll hm0;omega
 case hCw =>
  rintro k hk hc;omega
 case hI =>
  rintro s A E ⟨ho,hp⟩ hbel;exact⟨ho.below (hbel.mono (by omega)),hp⟩
 case hIx =>
  rintro cd s A E h hbel;exact h
 case h0=>exact⟨oWl,by omega⟩
 case round =>
  intro l' p x hl1 hl2 hIs hlt;unfold ujQ
  gi_wp2
  refine⟨Keep.refl _ _,hIs,?_⟩;rintro x2 hk2 hs2 ⟨ho,hc1⟩;have hlt0:=hlt;have HO:=ua ho;have hb:=uaq S p;have hp':p<=1048576:=by omega
  have hrow:=ho.row;obtain⟨u,hu⟩:=nm (S (2*p));obtain⟨v,hv⟩:=nm (S (2*p+1));have HLO:Hid (plo S p=max u 0):=by show _=_;rw[<-hu];rfl
  have HHI:Hid (phi S p=min v 255):=by show _=_;rw[<-hv];rfl
  rw[hu,hv];have key:∀(l h:Nat),plo S p=l->phi S p=h->l<=h->h<=255 ->
    ∃c1 c2:Int,x2.cell? ⟨w.heap.size,l,none⟩=some (.int .i64 c1)/\x2.cell? ⟨w.heap.size,h+1,none⟩=some (.int .i64 c2)/\-1048576<=c1/\c1<=1048576/\-1048576<=c2/\c2<=1048576 /\
     x2.frozen? ⟨w.heap.size,l,none⟩=false/\x2.frozen? ⟨w.heap.size,h+1,none⟩=false /\
     AdOwn w (chg S (p+1)) ((x2.setCell ⟨w.heap.size,l,none⟩ (.int .i64 (c1+1))).setCell ⟨w.heap.size,h+1,none⟩ (.int .i64 (c2-1))):=fun l h e1 e2 hle h5=>by
   refine⟨chg S p l,chg S p (h+1),hrow.cell (by omega),hrow.cell (by omega),by have:=hb l;omega,by have:=hb l;omega,by have:=hb (h+1);omega,by have:=hb (h+1);omega,hrow.frozen _,hrow.frozen _,?_⟩
   have hd:∀i,chg S (p+1) i=chg S p i+((if i=l then 1 else 0)+(if i=h+1 then -1 else 0)):=fun i=>by
    show chg S p i+dlt S p i=_;unfold dlt;rw[if_pos (by rw[e1,e2];omega),e1,e2]
    rfl
   refine⟨((hrow.set l _).set (h+1) _).congr (fun i hi=>?_),(HO.bel.setCell (p:=⟨w.heap.size,l,none⟩) (Nat.le_refl _) _).setCell (p:=⟨w.heap.size,h+1,none⟩) (Nat.le_refl _) _,by rw[uh,uh];exact HO.size⟩
   rw[hd i];by_cases q1:i=h+1
   ·have q2:¬i=l:=by omega
    subst q1;simp[q2];omega
   ·by_cases q2:i=l
    ·subst q2;simp[q1]
    ·simp[q1,q2]
  have none_:¬plo S p<=phi S p->AdOwn w (chg S (p+1)) x2:=fun hle=>by
   have e:chg S (p+1)=chg S p:=by
    funext i
    show chg S p i+dlt S p i=_;unfold dlt;rw[if_neg hle,Int.add_zero]
   rw[e];exact HO
  have KEY:=key;have NONE:=ua none_;have lx:w.heap.size<x2.heap.size:=by have:=HO.size;omega
  have HKP:Hid (∀(l h:Nat) (v1 v2:Value),Keep (fun k=>k=w.heap.size) x2 ((x2.setCell ⟨w.heap.size,l,none⟩ v1).setCell ⟨w.heap.size,h,none⟩ v2)):=fun l h v1 v2=>(Keep.setCell (C:=fun k=>k=w.heap.size) _ ⟨w.heap.size,l,none⟩ _ rfl).trans (Keep.setCell (C:=fun k=>k=w.heap.size) _ ⟨w.heap.size,h,none⟩ _ rfl)
  by_cases q1:u<0
  ·by_cases q2:255<v
   ·skip
    obtain⟨c1,c2,k1,k2,r1,r2,r3,r4,g1,g2,hA⟩:=KEY 0 255 (by rw[HLO.out];omega) (by rw[HHI.out];omega) (by omega) (by omega)
    have HA:=ua hA
    gi_wp2
    exact⟨HKP _ _ _ _,HA,by omega⟩
   ·by_cases q3:0<=v
    ·obtain⟨h,rfl⟩:=Int.eq_ofNat_of_zero_le q3
     have q4:(h:Int)+1<257:=by omega
     have q5:((h:Int)+1).toNat=h+1:=by omega
     obtain⟨c1,c2,k1,k2,r1,r2,r3,r4,g1,g2,hA⟩:=KEY 0 h (by rw[HLO.out];omega) (by rw[HHI.out];omega) (by omega) (by omega)
     have HA:=ua hA
     gi_wp2
     exact⟨HKP _ _ _ _,HA,by omega⟩
    ·skip
     have HA:=NONE (by rw[HLO.out,HHI.out];omega)
     gi_wp2
     exact⟨Keep.refl _ _,HA,by omega⟩
  ·obtain⟨l,rfl⟩:=Int.eq_ofNat_of_zero_le (show 0<=u by omega)
   by_cases q2:255<v
   ·by_cases q3:l<=255
    ·have q4:(l:Int)<=255:=by omega
     have q5:(l:Int)<257:=by omega
     obtain⟨c1,c2,k1,k2,r1,r2,r3,r4,g1,g2,hA⟩:=KEY l 255 (by rw[HLO.out];omega) (by rw[HHI.out];omega) (by omega) (by omega)
     have HA:=ua hA
     gi_wp2
     exact⟨HKP _ _ _ _,HA,by omega⟩
    ·have q4:¬(l:Int)<=255:=by omega
     have HA:=NONE (by rw[HLO.out,HHI.out];omega)
     gi_wp2
     exact⟨Keep.refl _ _,HA,by omega⟩
   ·by_cases q3:(l:Int)<=v
    ·obtain⟨h,rfl⟩:=Int.eq_ofNat_of_zero_le (show 0<=v by omega)
     have q4:(h:Int)+1<257:=by omega
     have q5:((h:Int)+1).toNat=h+1:=by omega
     have q6:(l:Int)<257:=by omega
     have ne:l≠h+1:=by omega
     obtain⟨c1,c2,k1,k2,r1,r2,r3,r4,g1,g2,hA⟩:=KEY l h (by rw[HLO.out];omega) (by rw[HHI.out];omega) (by omega) (by omega)
     have HA:=ua hA
     gi_wp2
     exact⟨HKP _ _ _ _,HA,by omega⟩
    ·skip
     have HA:=NONE (by rw[HLO.out,HHI.out];omega)
     gi_wp2
     exact⟨Keep.refl _ _,HA,by omega⟩
 case done =>
  rintro d p x hd hnm ⟨ho,hc1⟩ hK;have hnm':=hnm;have hdx:=(Array.getElem?_eq_some_iff.1 hK).1;have HO:=ua ho;have hp':p<=1048576:=by omega
  gi_wp2
  gi_loopw [7,31] (fun ov iv wr=>adL w mb o S p M d ov iv wr) (fun ov iv _=>256-(intOf iv).toNat)
  case atStart=>exact⟨0,by omega,rfl,rfl,⟨HO.row,fun i hi=>by rw[if_neg (by omega)];exact uc (HM i hi) HO.bel,fun j hj=>HO.bel.cell (p:=⟨mb,j,none⟩) hmb,fun j=>HO.bel.frozen (p:=⟨mb,j,none⟩) hmb,Kept.of HO.bel,HO.size,hK⟩⟩
  case round =>
   obtain⟨k,hk,rfl,rfl,hR⟩:=hrel;have HR:=ua hR;by_cases hlt:k<256
   ·have c0:=hR.row.cell (i:=k) (by omega)
    have lx:=ub c0;have c1:=hR.mem k hlt;have f1:=(hR.frz (o+k)).trans (HF _);have b1:=uaq S p k;have b2:=ue3 S p k;have b4:((k*p:Nat):Int)<=268435456:=by
     have:k*p<=256*1048576:=Nat.mul_le_mul (by omega) hp'
     omega
    have hsum:=ujJ S k hlt p;have lm:=ub c1;have hlt':(k:Int)<256:=by omega
    have hlt2:(k:Int)<257:=by omega
    obtain⟨u,hu⟩:=nm (kO (chg S p) k);obtain⟨v,hv⟩:=nm (chg S p k);have HE:Hid (kO (chg S p) (k+1)=u+v):=by show kO (chg S p) k+chg S p k=_;rw[hu,hv]
    rw[HE.out]at hsum;rw[hu]at b2;rw[hv]at b1 c0;rw[hu];have v1 : -1048576<=v:=by omega
    have v2:v<=1048576:=by omega
    have u1 : -268435456<=u:=by omega
    have u2:u<=268435456:=by omega
    have HSU:=ua hsum.2;clear hu hv b1 b2 b4 hsum hR;by_cases hpos:0<u+v
    ·have HN:=HR.yes hlt hmb (by omega) (HSU.1 hpos)
     have HNN:=ua HN;clear HN
     gi_wp2
     go_roundw
     case rel=>exact⟨k+1,by omega,by go_num,by rw[HE.out],HNN⟩
     case measure=>simp[intOf];omega
    ·have HN:=HR.no hlt (by cases q:yh S (k:Int) p with | false=>rfl | true=>exact absurd (HSU.2 q) hpos)
     have HNN:=ua HN;clear HN
     gi_wp2
     go_roundw
     case rel=>exact⟨k+1,by omega,by go_num,by rw[HE.out],HNN⟩
     case measure=>simp[intOf];omega
   ·obtain rfl:k=256:=by omega
    have hKr:=hR.dd
    gi_wp2
    refine⟨by simp,.inl ⟨_,_,rfl,run_takeDeferred hKr,?_⟩⟩
    have hbp:=kP (B:=w.heap.size+2) wr (.deferred none) (d:=d) (by omega) HR.size
    have hq:∀i:Nat,vA n S (i:Int)=yh S (i:Int) p:=fun i=>by
     unfold vA;rw[show n / 2=p by omega]
    refine⟨_,results_none rfl _ _ _,⟨_,rfl⟩,fun i hi=>?_,fun j hj=>(hbp.cell (p:=⟨mb,j,none⟩) (by show mb<_;omega)).trans (HR.rest j hj),fun j=>(hbp.frozen (p:=⟨mb,j,none⟩) (by show mb<_;omega)).trans (HR.frz j),?_⟩
    ·rw[hbp.cell (p:=⟨mb,o+i,none⟩) (by show mb<_;omega),HR.out.mem i hi,if_pos hi,hq i]
    ·have hkp:=HR.kept
     exact⟨hbp.os.trans hkp.os,hbp.tape.trans hkp.tape,hbp.output.trans hkp.output,Nat.le_trans hkp.size hbp.size,fun x hx hn=>(hbp.block x (by omega)).trans (hkp.block x hx hn)⟩
 case stop =>
  rintro d cd p x hd hsm h hK;exact h.elim
theorem ubw(Q:Nat->Prop)(mb o:Nat)(M:Nat->Bool)(a:Option Addr)(n c:Nat)(S:Nat->Int)(w:World)(hn:n<=1048576)(hS:Ints Q .i64 w a n S)(hM:∀i,i<256->w.cell? ⟨mb,o+i,none⟩=some (.bool (M i)))(hF:∀j,w.frozen? ⟨mb,j,none⟩=false) :
  Calls Tryz.prog 146 #[.pointer (some ⟨mb,o,none⟩),.slice a n c] w (umH mb o (fun i=>vA n S (i:Int)||M i) w):=by
 rcases hS with rfl | ⟨sb,so,rfl,hq,hS⟩
 ·exact callsIn_wide.1 (ucn mb o M a 0 c S 0 0 w hn (fun h=>absurd h (by omega)) (fun i h=>absurd h (by omega)) hM hF)
 ·exact callsIn_wide.1 (ucn mb o M _ n c S sb so w hn (fun _=>rfl) hS hM hF)
end Go.Proofs.YtpghlcdkfldlpaaGreat
