import Derived.Test.YtimfigongapdnaaGreatT03
import Derived.Shelf.RegionOpen
import Derived.OwnWalkIn
import Derived.LoopNIn
import Derived.LoopIn
import Derived.Deep.Slices
set_option linter.unusedVariables false
set_option linter.unusedSimpArgs false
set_option maxHeartbeats 40000000
set_option maxRecDepth 100000
namespace Go.Proofs.YtimfigongapdnaaGreat
open Go.RowKit Go.Shelf
open M (OpD ug Gr)
attribute [local go_sem] Oper.semAt_some
def nd(g:Gr)(p:Nat):ug:=if p<g.nr then g.rule p else g.lab (p-g.nr)
structure Flat(w:World)(ra la:Option Addr)(g:Gr)(rb ro lb lo:Nat)(na ba:Nat->Option Addr)(nc bc:Nat->Nat):Prop where
 ra:0<g.nr->ra=some ⟨rb,ro,none⟩
 la:0<g.nb->la=some ⟨lb,lo,none⟩
 r0:∀i,i<g.nr->w.cell? ⟨rb,ro+i*2,none⟩=some (.slice (na i) (nd g i).nl (nc i))
 r1:∀i,i<g.nr->w.cell? ⟨rb,ro+i*2+1,none⟩=some (.slice (ba i) (nd g i).bl (bc i))
 l0:∀i,i<g.nb->w.cell? ⟨lb,lo+i*3,none⟩=some (.slice (na (g.nr+i)) (nd g (g.nr+i)).nl (nc (g.nr+i)))
 l1:∀i,i<g.nb->w.cell? ⟨lb,lo+i*3+1,none⟩=some (.bool (g.lab i).has)
 l2:∀i,i<g.nb->w.cell? ⟨lb,lo+i*3+2,none⟩=some (.slice (ba (g.nr+i)) (nd g (g.nr+i)).bl (bc (g.nr+i)))
theorem vT g{i}(h:i<g.nr):nd g i=g.rule i:=by simp[nd,h]
theorem yR g i:nd g (g.nr+i)=g.lab i:=by unfold nd;rw[if_neg (by omega),show g.nr+i-g.nr=i by omega]
def udV(g:Gr)(a rb lb:Nat)(k:Nat):Prop:=k=a\/(k=rb/\0<g.nr)\/(k=lb/\0<g.nb)
def ubH(g:Gr)(a ba:Nat->Option Addr)(b bc:Nat->Nat)(p:Nat):Array Value:=#[.slice (a p) (nd g p).nl (b p),.slice (ba p) (nd g p).bl (bc p)]
def uga(w W:World)(g:Gr)(a rb lb:Nat)(J:Nat->World->Prop)(from_ n:Nat)(i:Value)(wr:World):Prop :=
 ∃p:Nat,p<=n/\i=.int .i64 (p:Int)/\J (from_+p) wr/\W.heap.size<=wr.heap.size/\∀k,udV g a rb lb k->wr.heap[k]?=w.heap[k]?
theorem ucu c P la rc lc g rb G lb lo(v ba:Nat->Option Addr)x bc w(h1:g.nr<=1048576)(h2:g.nb<=1048576)(E:w.cell? ⟨c,0,none⟩=some (.slice P g.nr rc))(X:w.cell? ⟨c,1,none⟩=some (.slice la g.nb lc))(U:Flat w P la g rb G lb lo v ba x bc) :
  unI Tryz.prog 107 #[.pointer (some ⟨c,0,none⟩)] 0 (λp=>p<g.nr+g.nb) (λp=>p+1) (ubH g v ba x bc) (udV g c rb lb) w:=by
 intro l C J Jx W ad H I aa L ab N T;have ac:Fence.wide.depth=none:=rfl;have d:=ua U;refine callsIn_of_wp Tryz.func107 rfl trivial ?_ rfl;simp only[Tryz.ntmps107,List.size_toArray,List.length_cons,List.length_nil,Nat.reduceAdd,Nat.reduceSub,Array.replicate_succ,Array.replicate_zero,List.push_toArray,List.append_toArray,List.nil_append,List.cons_append];have ae:=(World.cell?_of_block (a:=⟨c,0,none⟩) (H c (.inl rfl))).trans E
 gi_wp2
 gi_loopw [10] (λi wr=>uga w W g c rb lb J 0 g.nr i wr) (λi _=>g.nr-(intOf i).toNat)
 case atStart=>exact⟨0,Nat.zero_le _,rfl,T,Nat.le_refl _,H⟩
 case round =>
  obtain⟨p,hp,rfl,j,t,b⟩:=hrel;rw[Nat.zero_add]at j;by_cases n:p<g.nr
  ·obtain rfl:=d.ra (by omega);have z:=(World.cell?_of_block (a:=⟨rb,G+p*2,none⟩) (b rb (.inr (.inl ⟨rfl,by omega⟩)))).trans (d.r0 p n);have R:=(World.cell?_of_block (a:=⟨rb,G+p*2+1,none⟩) (b rb (.inr (.inl ⟨rfl,by omega⟩)))).trans (d.r1 p n);have Y:=ud z;have o:=L p wr (wr.alloc (Obj.cells #[Value.slice (v p) (nd g p).nl (x p),Value.slice (ba p) (nd g p).bl (bc p)] 73)) j ((Below.refl _ wr).alloc (by omega) _);obtain⟨S,tmps,Q,body,u,r⟩:=N p _ o (by omega);unfold ubH at u;clear o
   gi_wp2
   refine r.mono ?_;clear r u;rintro e y (⟨rfl,B,s⟩|⟨rfl,D,_⟩)
   ·have A:∀k,udV g c rb lb k->y.heap[k]?=w.heap[k]?:=λk f=>by
     have F:k<wr.heap.size:=by
      have e:=b k f;have:w.heap[k]?.isSome:=by
       rcases f with rfl|⟨rfl,m⟩|⟨rfl,m⟩
       ·have:=ud E;simp[this]
       ·have:=ud (d.r0 0 m);simp[this]
       have:=ud (d.l0 0 m);simp[this]
      rw[<-e]at this;rcases Nat.lt_or_ge k wr.heap.size with h|h
      ·exact h
      simp[h]at this
     refine(s.block k (by simp;omega) (I k f)).trans ((Below.heap_alloc _ _ _ F).trans (b k f))
    gi_wp2
    go_roundw
    case rel=>exact⟨p+1,by omega,by go_num,by rw[Nat.zero_add];exact B,Nat.le_trans (Nat.le_trans t (by simp)) s.size,A⟩
    case measure=>simp[intOf];omega
   gi_wp2
   refine bodyPost_ret (results_none rfl _ _ _) rfl ?_;exact⟨⟨_,rfl⟩,.inr ⟨p,by omega,D⟩⟩
  have O:p=g.nr:=by omega
  rw[O]at j;clear O;have Z:=(World.cell?_of_block (a:=⟨c,1,none⟩) (b c (.inl rfl))).trans X;obtain⟨V,eV⟩:=nm wr;subst wr
  gi_wp2
  gi_loopw [25] (λi wr=>uga w W g c rb lb J g.nr g.nb i wr) (λi _=>g.nb-(intOf i).toNat)
  case atStart=>exact⟨0,Nat.zero_le _,rfl,j,t,b⟩
  case round =>
   clear j t b Z;obtain⟨q,hq,rfl,j,t,b⟩:=hrel;by_cases n:q<g.nb
   ·obtain rfl:=d.la (by omega);have z:=(World.cell?_of_block (a:=⟨lb,lo+q*3,none⟩) (b lb (.inr (.inr ⟨rfl,by omega⟩)))).trans (d.l0 q n);have R:=(World.cell?_of_block (a:=⟨lb,lo+q*3+1,none⟩) (b lb (.inr (.inr ⟨rfl,by omega⟩)))).trans (d.l1 q n);have c2:=(World.cell?_of_block (a:=⟨lb,lo+q*3+2,none⟩) (b lb (.inr (.inr ⟨rfl,by omega⟩)))).trans (d.l2 q n);have Y:=ud z;have o:=L (g.nr+q) wr (wr.alloc (Obj.cells #[Value.slice (v (g.nr+q)) (nd g (g.nr+q)).nl (x (g.nr+q)),Value.bool (g.lab q).has,Value.slice (ba (g.nr+q)) (nd g (g.nr+q)).bl (bc (g.nr+q))] 70)) j ((Below.refl _ wr).alloc (by omega) _);obtain⟨S,tmps,Q,body,u,r⟩:=N (g.nr+q) _ o (by omega);unfold ubH at u;clear o
    gi_wp2
    refine r.mono ?_;clear r u;rintro e y (⟨rfl,B,s⟩|⟨rfl,D,_⟩)
    ·have A:∀k,udV g c rb lb k->y.heap[k]?=w.heap[k]?:=λk f=>by
      have F:k<wr.heap.size:=by
       have e:=b k f;have:w.heap[k]?.isSome:=by
        rcases f with rfl|⟨rfl,m⟩|⟨rfl,m⟩
        ·have:=ud E;simp[this]
        ·have:=ud (d.r0 0 m);simp[this]
        have:=ud (d.l0 0 m);simp[this]
       rw[<-e]at this;rcases Nat.lt_or_ge k wr.heap.size with h|h
       ·exact h
       simp[h]at this
      refine(s.block k (by simp;omega) (I k f)).trans ((Below.heap_alloc _ _ _ F).trans (b k f))
     gi_wp2
     go_roundw
     case rel=>exact⟨q+1,by omega,by go_num,B,Nat.le_trans (Nat.le_trans t (by simp)) s.size,A⟩
     case measure=>simp[intOf];omega
    gi_wp2
    refine bodyPost_ret (results_none rfl _ _ _) rfl ?_;exact⟨⟨_,rfl⟩,.inr ⟨g.nr+q,by omega,D⟩⟩
   gi_wp2
   go_end0;exact⟨⟨_,rfl⟩,.inl ⟨g.nr+q,by omega,j⟩⟩
theorem udW b la nr c a lc w :
  CallsIn Fence.wide 0 Tryz.prog 73 #[.agg #[.slice b nr c,.slice la a lc]] w λe w'=>e=.returned (.func (.func 107) #[] #[.pointer (some ⟨w.heap.size,0,none⟩)])/\w'=w.alloc (.cells #[.slice b nr c,.slice la a lc] 28):=by
 refine callsIn_of_wp Tryz.func73 rfl trivial ?_ rfl;simp only[Tryz.ntmps73,List.size_toArray,List.length_cons,List.length_nil,Nat.reduceAdd,Nat.reduceSub,Array.replicate_succ,Array.replicate_zero,List.push_toArray,List.append_toArray,List.nil_append,List.cons_append]
 gi_wp2
 go_ret;exact⟨rfl,rfl⟩
attribute [local go_sem] Oper.semAt_some
def xH(g:Gr)(p:Nat):Nat:=M.sum (λi=>(nd g i).bl) p
theorem uas g p:xH g (p+1)=xH g p+(nd g p).bl:=rfl
def ui4(g:Gr):Prop:=100<g.nr\/100<g.nb\/∃p,p<g.nr+g.nb/\(2000<xH g (p+1)\/32<(nd g p).nl)
structure OvOwn(w:World)(y:Nat)(s:Int)(x:World):Prop where
 res:∃v,x.cell? ⟨y+1,0,none⟩=some v
 resf:x.frozen? ⟨y+1,0,none⟩=false
 sum:x.cell? ⟨y+1+1,0,none⟩=some (.int .i64 s)
 sumf:x.frozen? ⟨y+1+1,0,none⟩=false
 bel:Below y w x
 size:y+4<=x.heap.size
theorem OvOwn.below{w y s x z}(h:OvOwn w y s x)(a:Below (y+4) x z):OvOwn w y s z :=
 ⟨h.res.imp λ_ b=>(a.cell (p:=⟨y+1,0,none⟩) (by show y+1<y+4;omega)).trans b,
  (a.frozen (p:=⟨y+1,0,none⟩) (by show y+1<y+4;omega)).trans h.resf,
  (a.cell (p:=⟨y+1+1,0,none⟩) (by show y+1+1<y+4;omega)).trans h.sum,
  (a.frozen (p:=⟨y+1+1,0,none⟩) (by show y+1+1<y+4;omega)).trans h.sumf,h.bel.trans (a.mono (by omega)),Nat.le_trans h.size a.size⟩
theorem OvOwn.store{w y s s' x}(h:OvOwn w y s x)(b:y<=w.heap.size):OvOwn w y s' (x.setCell ⟨y+1+1,0,none⟩ (.int .i64 s')) :=
 ⟨h.res.imp λ_ a=>by rw[World.cell?_of_block (Below.heap_setCell x ⟨y+1+1,0,none⟩ _ (y+1) (by simp))];exact a,
  (World.frozen?_setCell _ _ _ _).trans h.resf,World.cell?_setCell_same' _ _ _ (by rw[h.sum];rfl),(World.frozen?_setCell _ _ _ _).trans h.sumf,
  h.bel.setCell (p:=⟨y+1+1,0,none⟩) (by show y<=y+1+1;omega) _,by simpa[World.setCell] using h.size⟩
theorem OvOwn.answer{w y s x}(h:OvOwn w y s x):Below y w (x.setCell ⟨y+1,0,none⟩ (.bool true))/\y+4<=(x.setCell ⟨y+1,0,none⟩ (.bool true)).heap.size/\(x.setCell ⟨y+1,0,none⟩ (.bool true)).cell? ⟨y+1,0,none⟩=some (.bool true) :=
 ⟨h.bel.setCell (p:=⟨y+1,0,none⟩) (by show y<=y+1;omega) _,by simpa[World.setCell] using h.size,by obtain⟨v,a⟩:=h.res;exact World.cell?_setCell_same' _ _ _ (by rw[a];rfl)⟩
def us1(w:World)(g:Gr)(p:Nat)(x:World):Prop:=OvOwn w w.heap.size (xH g p:Nat) x/\p<=g.nr+g.nb/\xH g p<=2000/\∀q,q<p->¬(2000<xH g (q+1)\/32<(nd g q).nl)
def us2(w:World)(g:Gr)(a:Code)(p:Nat)(x:World):Prop :=
 a=.ret/\Below w.heap.size w x/\w.heap.size+4<=x.heap.size/\x.cell? ⟨w.heap.size+1,0,none⟩=some (.bool true)/\p<g.nr+g.nb/\(2000<xH g (p+1)\/32<(nd g p).nl)
theorem xm(W:World)(a b:Value)(t:TypeId):(W.alloc (.cells #[a,b] t)).cell? ⟨W.heap.size,0,none⟩=some a/\(W.alloc (.cells #[a,b] t)).cell? ⟨W.heap.size,1,none⟩=some b:=by
 have h:=World.alloc_heap_new W (.cells #[a,b] t);refine⟨?_,?_⟩<;>simp only[World.cell?,h]<;>rfl
theorem uew a la c lc g rb ro lb lo(Y ba:Nat->Option Addr)Z bc w(i:vF g)(G:∀W,Below w.heap.size w W->Flat W a la g rb ro lb lo Y ba Z bc) :
  CallsIn Fence.wide 0 Tryz.prog 69 #[.agg #[.slice a g.nr c,.slice la g.nb lc]] w (xK (ui4 g) w):=by
 have ak:Fence.wide.depth=none:=rfl;have h1:=i.nr;have h2:=i.nb;have HF:=ua G;have ag:∀p,p<g.nr+g.nb->(nd g p).bl<=1048576/\(nd g p).nl<=1048576:=λp v=>by
  unfold nd;split
  ·exact⟨(i.rule p (by omega)).body.1,(i.rule p (by omega)).name⟩
  exact⟨(i.lab (p-g.nr) (by omega)).body.1,(i.lab (p-g.nr) (by omega)).name⟩
 have HS:=ua ag;have T:0<g.nr->rb<w.heap.size:=λh=>ud ((G w (Below.refl _ _)).r0 0 h)
 have S:0<g.nb->lb<w.heap.size:=λh=>ud ((G w (Below.refl _ _)).l0 0 h)
 by_cases o1:100<g.nr
 ·have o1':(100:Int)<(g.nr:Int):=by omega
  refine callsIn_of_wp_marks Tryz.func69 rfl trivial ?_ rfl;simp only[Tryz.ntmps69,List.size_toArray,List.length_cons,List.length_nil,Nat.reduceAdd,Nat.reduceSub,Array.replicate_succ,Array.replicate_zero,List.push_toArray,List.append_toArray,List.nil_append,List.cons_append]
  gi_wp2
  refine⟨.bool true,?_,⟨true,rfl,qY (.inl o1)⟩,uP w _ _⟩;have:=xy (w.alloc (Obj.cells #[Value.slice a g.nr c,Value.slice la g.nb lc] 28)) (.bool true) 4;rw[World.size_alloc]at this;simp[results,Tryz.f69,go_sem,this]
 have o1':¬(100:Int)<(g.nr:Int):=by omega
 by_cases o2:100<g.nb
 ·have o2':(100:Int)<(g.nb:Int):=by omega
  refine callsIn_of_wp_marks Tryz.func69 rfl trivial ?_ rfl;simp only[Tryz.ntmps69,List.size_toArray,List.length_cons,List.length_nil,Nat.reduceAdd,Nat.reduceSub,Array.replicate_succ,Array.replicate_zero,List.push_toArray,List.append_toArray,List.nil_append,List.cons_append]
  gi_wp2
  refine⟨.bool true,?_,⟨true,rfl,qY (.inr (.inl o2))⟩,uP w _ _⟩;have:=xy (w.alloc (Obj.cells #[Value.slice a g.nr c,Value.slice la g.nb lc] 28)) (.bool true) 4;rw[World.size_alloc]at this;simp[results,Tryz.f69,go_sem,this]
 have o2':¬(100:Int)<(g.nb:Int):=by omega
 refine callsIn_of_wp_marks Tryz.func69 rfl trivial ?_ rfl;simp only[Tryz.ntmps69,List.size_toArray,List.length_cons,List.length_nil,Nat.reduceAdd,Nat.reduceSub,Array.replicate_succ,Array.replicate_zero,List.push_toArray,List.append_toArray,List.nil_append,List.cons_append]
 gi_wp2_with (refine⟨trivial,?_⟩;gi_at_call 73;refine(udW _ _ _ _ _ _ _).mono ?_;rintro e w' ⟨rfl,rfl⟩)
 obtain⟨l,f⟩:=nm ((((w.alloc (Obj.cells #[Value.slice a g.nr c,Value.slice la g.nb lc] 28)).alloc (Obj.cells #[Value.bool false] 4)).alloc (Obj.cells #[Value.int IntKind.i64 0] 3)).alloc (Obj.cells #[Value.slice a g.nr c,Value.slice la g.nb lc] 28));have av:l.heap.size=w.heap.size+4:=by rw[<-f];simp
 have Q:Below w.heap.size w l:=by rw[<-f];exact((((Below.refl _ w).alloc (Nat.le_refl _) _).alloc (by simp) _).alloc (by simp;omega) _).alloc (by simp;omega) _
 have u:=xy (w.alloc (Obj.cells #[Value.slice a g.nr c,Value.slice la g.nb lc] 28)) (.bool false) 4;have R:=uan (w.alloc (Obj.cells #[Value.slice a g.nr c,Value.slice la g.nb lc] 28)) (.bool false) 4;have P:=xy ((w.alloc (Obj.cells #[Value.slice a g.nr c,Value.slice la g.nb lc] 28)).alloc (Obj.cells #[Value.bool false] 4)) (.int .i64 0) 3;have V:=uan ((w.alloc (Obj.cells #[Value.slice a g.nr c,Value.slice la g.nb lc] 28)).alloc (Obj.cells #[Value.bool false] 4)) (.int .i64 0) 3;have y:=xm (((w.alloc (Obj.cells #[Value.slice a g.nr c,Value.slice la g.nb lc] 28)).alloc (Obj.cells #[Value.bool false] 4)).alloc (Obj.cells #[Value.int IntKind.i64 0] 3)) (.slice a g.nr c) (.slice la g.nb lc) 28;simp only[World.size_alloc]at u R P V y;rw[f]at y;have aj:OvOwn w w.heap.size 0 l:=⟨⟨_,by rw[<-f];exact uA _ (uA _ u)⟩,by rw[<-f];exact qO _ (uA _ u) (qO _ u R),by rw[<-f];exact uA _ P,by rw[<-f];exact qO _ P V,Q,by omega⟩;rw[f];refine uao (gf:=107) (lb:=#[.pointer (some ⟨w.heap.size+1+1+1,0,none⟩)]) rfl (enters_of Tryz.func107 (by kernel_rfl) rfl)
  (ucu (w.heap.size+1+1+1) a la c lc g rb ro lb lo Y ba Z bc l h1 h2 y.1 y.2 (HF l Q)) (λ_=>rfl) ?hD (λk=>k=w.heap.size+1\/k=w.heap.size+1+1) ?hCD ?hCw
  (us1 w g) (us2 w g) ?hI ?hIx ?h0 ?round ?done ?stop
 case hD =>
  rintro k (rfl|⟨rfl,j⟩|⟨rfl,j⟩)
  ·omega
  ·have:=T j;omega
  have:=S j;omega
 case hCD =>
  rintro k (rfl|⟨rfl,j⟩|⟨rfl,j⟩) J
  ·omega
  ·have:=T j;omega
  have:=S j;omega
 case hCw =>
  rintro k hk J;omega
 case hI =>
  rintro s A E ⟨b,v⟩ n;exact⟨b.below (n.mono (by omega)),v⟩
 case hIx =>
  rintro cd s A E ⟨rfl,H,i,J,v⟩ n;exact⟨rfl,H.trans (n.mono (by omega)),Nat.le_trans i n.size,(n.cell (p:=⟨w.heap.size+1,0,none⟩) (by show w.heap.size+1<_;omega)).trans J,v⟩
 case h0=>exact⟨aj,Nat.zero_le _,Nat.zero_le _,λq U=>absurd U (Nat.not_lt_zero _)⟩
 case round =>
  intro l' p x an ao aa O;unfold ubH
  gi_wp2
  refine⟨Keep.refl _ _,aa,?_⟩;rintro x2 am aq ⟨b,L,ab,m⟩;obtain⟨rv,X⟩:=b.res;have k2:=b.resf;have k3:=b.sum;have k4:=b.sumf;have HI:=m;obtain⟨b1,b2⟩:=HS p O;have af:=uas g p;have r:Hid _:=af;have ah:=OvOwn.store (s':=(xH g p:Int)+((nd g p).bl:Int)) b (Nat.le_refl _);have z:=ua ah;by_cases t1:2000<xH g p+(nd g p).bl
  ·have t1':(2000:Int)<(xH g p:Int)+((nd g p).bl:Int):=by omega
   gi_wp2
   obtain⟨C,D,F⟩:=z.answer;exact⟨(Keep.setCell _ _ _ (.inr rfl)).trans (Keep.setCell _ _ _ (.inl rfl)),rfl,C,D,F,O,.inl (by have:=r;omega)⟩
  have t1':¬(2000:Int)<(xH g p:Int)+((nd g p).bl:Int):=by omega
  by_cases t2:32<(nd g p).nl
  ·have t2':(32:Int)<((nd g p).nl:Int):=by omega
   gi_wp2
   obtain⟨C,D,F⟩:=z.answer;exact⟨(Keep.setCell _ _ _ (.inr rfl)).trans (Keep.setCell _ _ _ (.inl rfl)),rfl,C,D,F,O,.inr t2⟩
  have t2':¬(32:Int)<((nd g p).nl:Int):=by omega
  gi_wp2
  have e:((xH g (p+1):Nat):Int)=(xH g p:Int)+((nd g p).bl:Int):=by rw[r.out];omega
  exact⟨Keep.setCell _ _ _ (.inr rfl),by rw[e];exact z,by omega,by have:=r;omega,vC HI (by have:=r;omega)⟩
 case done =>
  rintro d p x hd ap ⟨b,L,ab,m⟩ t;obtain⟨rv,X⟩:=b.res;have k2:=b.resf
  gi_wp2
  have ae:d≠w.heap.size+1:=by omega
  have hK':(x.setCell ⟨w.heap.size+1,0,none⟩ (.bool false)).heap[d]?=some (.deferred (some [])):=(Below.heap_setCell x ⟨w.heap.size+1,0,none⟩ _ d ae).trans t;refine⟨by simp,.inl ⟨_,_,rfl,run_takeDeferred hK',?_⟩⟩;have o:=xE (B:=w.heap.size+4) (x.setCell ⟨w.heap.size+1,0,none⟩ (.bool false)) (.deferred none) (d:=d) (by omega) (by simpa[World.setCell] using b.size);have ac:(x.setCell ⟨w.heap.size+1,0,none⟩ (.bool false)).cell? ⟨w.heap.size+1,0,none⟩=some (.bool false):=World.cell?_setCell_same' _ _ _ (by rw[X];rfl);have N:=(o.cell (p:=⟨w.heap.size+1,0,none⟩) (by show w.heap.size+1<_;omega)).trans ac;have I:=(b.bel.setCell (p:=⟨w.heap.size+1,0,none⟩) (by show w.heap.size<=w.heap.size+1;omega) (.bool false)).trans (o.mono (by omega));refine⟨.bool false,?_,⟨false,rfl,uV ?_⟩,I⟩
  ·simp[results,Tryz.f69,go_sem,N]
  rintro (h|h|⟨q,U,h⟩)
  ·exact o1 h
  ·exact o2 h
  exact m q (by omega) h
 case stop =>
  rintro d cd p x hd au ⟨rfl,H,ai,ad,L,m⟩ t
  gi_wp2
  refine⟨by simp,.inl ⟨_,_,rfl,run_takeDeferred t,?_⟩⟩;have al:=(Array.getElem?_eq_some_iff.1 t).1;have o:=xE (B:=w.heap.size+4) x (.deferred none) (d:=d) (by omega) ai;have N:=(o.cell (p:=⟨w.heap.size+1,0,none⟩) (by show w.heap.size+1<_;omega)).trans ad;have I:=H.trans (o.mono (by omega));refine⟨.bool true,?_,⟨true,rfl,qY (.inr (.inr ⟨p,L,m⟩))⟩,I⟩;simp[results,Tryz.f69,go_sem,N]
attribute [local go_sem] Oper.semAt_some
theorem usW:(Tryz.prog.info? 3).map (λi=>(i.zero,i.size,i.bytes))=some (some (.int .i64 0),1,8):=by kernel_rfl
def yB(g:Gr)(p l:Nat):Prop:=∃q,q<p/\M.Throws (nd g q).bl (nd g q).body l
def uhJ(g:Gr)(p k l:Nat):Prop:=yB g p l\/M.Throws k (nd g p).body l
def ui1(g:Gr):Prop:=∀p,p<g.nr+g.nb->∀i,i<(nd g p).bl->((nd g p).body i).kind=3->0<=((nd g p).body i).arg/\((nd g p).body i).arg<g.nb
def Cnt(x:World)(b a:Nat)(P:Nat->Prop)(top:Nat):Prop :=
 ∃f:Nat->Nat,x.rowIs b 3 a (λi=>.int .i64 (f i))/\(∀i,i<a->(f i≠0↔P i))/\∀i,i<a->f i<=top
theorem Cnt.bump{x}{b d top a:Nat}{P}(h:Cnt x b d P top)(j:a<d){z:Nat}(m:x.cell? ⟨b,a,none⟩=some (.int .i64 (z:Int))) :
  Cnt (x.setCell ⟨b,a,none⟩ (.int .i64 ((z:Int)+1))) b d (λi=>P i\/i=a) (top+1):=by
 obtain⟨f,g,k,l⟩:=h;have n:(f a:Int)=z:=by
  have:=g.cell j;rw[m]at this;simp at this;omega
 refine⟨λi=>if i=a then f a+1 else f i,(g.set a _).congr λi c=>?_,λi c=>?_,λi c=>?_⟩
 ·by_cases e:i=a
  ·subst e;simp;omega
  simp[e]
 ·by_cases e:i=a
  ·subst e;simp
  simp[e,k i c]
 have:=l i c;by_cases e:i=a
 ·subst e;simp;omega
 simp[e];omega
def unO(g:Gr):Prop:=∀i,i<g.nb->(g.lab i).has=false->yB g (g.nr+g.nb) i
theorem Cnt.congr{x b c top g P d}(h:Cnt x b c P top)(e:∀i,i<c->(P i↔d i))(m:top<=g):Cnt x b c d g:=by
 obtain⟨f,l,k,j⟩:=h;exact⟨f,l,λi a=>(k i a).trans (e i a),λi a=>Nat.le_trans (j i a) m⟩
theorem Cnt.of_block{x z b a top P}(h:Cnt x b a P top)(e:z.heap[b]?=x.heap[b]?):Cnt z b a P top:=by
 obtain⟨f,g,d,c⟩:=h;exact⟨f,g.of_block e,d,c⟩
theorem uhK B l:¬M.Throws 0 B l:=by rintro⟨i,a,_⟩;omega
theorem qP k B l:M.Throws (k+1) B l↔M.Throws k B l\/((B k).kind=3/\(B k).arg=l):=by
 constructor
 ·rintro⟨i,a,h⟩;by_cases e:i=k
  ·subst e;exact .inr h
  exact .inl ⟨i,by omega,h⟩
 rintro (⟨i,a,h⟩|h)
 ·exact⟨i,by omega,h⟩
 exact⟨k,by omega,h⟩
theorem uet g p l:yB g (p+1) l↔uhJ g p (nd g p).bl l:=by
 constructor
 ·rintro⟨q,a,h⟩;by_cases e:q=p
  ·subst e;exact .inr h
  exact .inl ⟨q,by omega,h⟩
 rintro (⟨q,a,h⟩|h)
 ·exact⟨q,by omega,h⟩
 exact⟨p,by omega,h⟩
structure MtOwn(w:World)(y:Nat)(ra la:Option Addr)(nr rc nb lc:Nat)(P:Nat->Prop)(top:Nat)(x:World):Prop where
 box0:x.cell? ⟨y,0,none⟩=some (.slice ra nr rc)
 box1:x.cell? ⟨y,1,none⟩=some (.slice la nb lc)
 sl:x.cell? ⟨y+1+1,0,none⟩=some (.slice (some ⟨y+1,0,none⟩) nb nb)
 cnt:Cnt x (y+1) nb P top
 bel:Below y w x
 size:y+4<=x.heap.size
theorem MtOwn.below{w y c la nr d b lc P top x z}(h:MtOwn w y c la nr d b lc P top x)(a:Below (y+4) x z):MtOwn w y c la nr d b lc P top z :=
 ⟨(a.cell (p:=⟨y,0,none⟩) (by show y<y+4;omega)).trans h.box0,(a.cell (p:=⟨y,1,none⟩) (by show y<y+4;omega)).trans h.box1,
  (a.cell (p:=⟨y+1+1,0,none⟩) (by show y+1+1<y+4;omega)).trans h.sl,h.cnt.of_block (a.block _ (by omega)),h.bel.trans (a.mono (by omega)),Nat.le_trans h.size a.size⟩
theorem MtOwn.congr{w y c la nr d a lc P b top f x}(h:MtOwn w y c la nr d a lc P top x)(e:∀i,i<a->(P i↔b i))(g:top<=f):MtOwn w y c la nr d a lc b f x :=
 ⟨h.box0,h.box1,h.sl,h.cnt.congr e g,h.bel,h.size⟩
theorem MtOwn.bump{w}{y:Nat}{c la}{nr d b lc:Nat}{P}{top:Nat}{x}(h:MtOwn w y c la nr d b lc P top x){a:Nat}(e:a<b){z:Nat}(f:x.cell? ⟨y+1,a,none⟩=some (.int .i64 (z:Int))) :
  MtOwn w y c la nr d b lc (λi=>P i\/i=a) (top+1) (x.setCell ⟨y+1,a,none⟩ (.int .i64 ((z:Int)+1))) :=
 ⟨by rw[World.cell?_of_block (Below.heap_setCell x ⟨y+1,a,none⟩ _ y (by simp))];exact h.box0,
  by rw[World.cell?_of_block (Below.heap_setCell x ⟨y+1,a,none⟩ _ y (by simp))];exact h.box1,
  by rw[World.cell?_of_block (Below.heap_setCell x ⟨y+1,a,none⟩ _ (y+1+1) (by simp))];exact h.sl,
  h.cnt.bump e f,h.bel.setCell (p:=⟨y+1,a,none⟩) (by show y<=y+1;omega) _,by simpa[World.setCell] using h.size⟩
def urW(w:World)(a la:Option Addr)(b lc:Nat)(g:Gr)(p:Nat)(x:World):Prop:=MtOwn w w.heap.size a la g.nr b g.nb lc (yB g p) (xH g p) x/\p<=g.nr+g.nb
def urX(w d:World)(a la:Option Addr)(c lc:Nat)(g:Gr)(p:Nat)(i:Value)(wr:World):Prop :=
 ∃k:Nat,k<=(nd g p).bl/\i=.int .i64 (k:Int)/\MtOwn w w.heap.size a la g.nr c g.nb lc (uhJ g p k) (xH g p+k) wr/\Keep (λb=>b=w.heap.size+1) d wr
theorem udS Q l la n lc g rb ro lb lo(X ba:Nat->Option Addr)Y bc w(U:vF g)(hF:∀W,Below w.heap.size w W->Flat W l la g rb ro lb lo X ba Y bc)(hO:∀p,p<g.nr+g.nb->OpsA Q w (ba p) (nd g p).bl (nd g p).body)(hA:ui1 g)(a4:xH g (g.nr+g.nb)<=2000) :
  CallsIn Fence.wide 0 Tryz.prog 72 #[.agg #[.slice l g.nr n,.slice la g.nb lc]] w (xK (unO g) w):=by
 have a8:Fence.wide.depth=none:=rfl;have h1:=U.nr;have h2:=U.nb;have HF:=ua hF;have HO:=ua hO;have ap:=ua hA;have a2:∀p,p<g.nr+g.nb->(nd g p).bl<=1048576/\xH g p+(nd g p).bl<=2000:=λp J=>by
  refine⟨?_,?_⟩
  ·unfold nd;split
   ·exact(U.rule p (by omega)).body.1
   exact(U.lab (p-g.nr) (by omega)).body.1
  rw[<-uas];exact Nat.le_trans (M.sum_le _ (by omega)) a4
 have HS:=ua a2;have am:0<g.nr->rb<w.heap.size:=λh=>ud ((hF w (Below.refl _ _)).r0 0 h)
 have al:0<g.nb->lb<w.heap.size:=λh=>ud ((hF w (Below.refl _ _)).l0 0 h)
 have be:=run_make_row' (P:=Tryz.prog) 36 3 (.int .i64 0) 8 Tryz.underlying36 usW rfl .i64 .i64 g.nb (by omega) (by omega);refine callsIn_of_wp_marks Tryz.func72 rfl trivial ?_ rfl;simp only[Tryz.ntmps72,List.size_toArray,List.length_cons,List.length_nil,Nat.reduceAdd,Nat.reduceSub,Array.replicate_succ,Array.replicate_zero,List.push_toArray,List.append_toArray,List.nil_append,List.cons_append]
 gi_wp2_with (refine⟨trivial,?_⟩;gi_at_call 73;refine(udW _ _ _ _ _ _ _).mono ?_;rintro e w' ⟨rfl,rfl⟩)
 obtain⟨G,t⟩:=nm ((((w.alloc (Obj.cells #[Value.slice l g.nr n,Value.slice la g.nb lc] 28)).alloc (Obj.cells (madeCells #[Value.int IntKind.i64 0] g.nb) 3)).alloc (Obj.cells #[Value.slice (some ⟨w.heap.size+1,0,none⟩) g.nb g.nb] 36)).alloc (Obj.cells #[Value.slice l g.nr n,Value.slice la g.nb lc] 28));have bi:G.heap.size=w.heap.size+4:=by rw[<-t];simp
 have ah:Below w.heap.size w G:=by rw[<-t];exact((((Below.refl _ w).alloc (Nat.le_refl _) _).alloc (by simp) _).alloc (by simp;omega) _).alloc (by simp;omega) _
 have u:=xm w (.slice l g.nr n) (.slice la g.nb lc) 28;have hm:=World.rowIs_made (w.alloc (Obj.cells #[Value.slice l g.nr n,Value.slice la g.nb lc] 28)) (.int .i64 0) g.nb 3;have D:=xy ((w.alloc (Obj.cells #[Value.slice l g.nr n,Value.slice la g.nb lc] 28)).alloc (Obj.cells (madeCells #[Value.int IntKind.i64 0] g.nb) 3)) (.slice (some ⟨w.heap.size+1,0,none⟩) g.nb g.nb) 36;have V:=xm (((w.alloc (Obj.cells #[Value.slice l g.nr n,Value.slice la g.nb lc] 28)).alloc (Obj.cells (madeCells #[Value.int IntKind.i64 0] g.nb) 3)).alloc (Obj.cells #[Value.slice (some ⟨w.heap.size+1,0,none⟩) g.nb g.nb] 36)) (.slice l g.nr n) (.slice la g.nb lc) 28;simp only[World.size_alloc]at u hm D V;rw[t]at V;have a6:MtOwn w w.heap.size l la g.nr n g.nb lc (yB g 0) (xH g 0) G:=by
  rw[<-t];refine⟨uA _ (uA _ (uA _ u.1)),uA _ (uA _ (uA _ u.2)),uA _ D,⟨λ_=>0,((hm.alloc _).alloc _).congr λi F=>rfl,λi F=>?_,λi F=>Nat.zero_le _⟩,by rw[t];exact ah,by rw[t];omega⟩;exact⟨λh=>absurd rfl h,λ⟨q,hq,_⟩=>absurd hq (Nat.not_lt_zero _)⟩
 rw[t];refine uao (gf:=107) (lb:=#[.pointer (some ⟨w.heap.size+1+1+1,0,none⟩)]) rfl (enters_of Tryz.func107 (by kernel_rfl) rfl)
  (ucu (w.heap.size+1+1+1) l la n lc g rb ro lb lo X ba Y bc G h1 h2 V.1 V.2 (HF G ah)) (λ_=>rfl) ?hD (λk=>k=w.heap.size+1) ?hCD ?hCw
  (urW w l la n lc g) (λ_ _ _=>False) ?hI ?hIx ?h0 ?round ?done ?stop
 case hD =>
  rintro k (rfl|⟨rfl,y⟩|⟨rfl,y⟩)
  ·omega
  ·have:=am y;omega
  have:=al y;omega
 case hCD =>
  rintro k (rfl|⟨rfl,y⟩|⟨rfl,y⟩) hc
  ·omega
  ·have:=am y;omega
  have:=al y;omega
 case hCw =>
  rintro k hk hc;omega
 case hI =>
  rintro s A E ⟨c,J⟩ v;exact⟨c.below (v.mono (by omega)),J⟩
 case hIx =>
  rintro cd s A E h v;exact h
 case h0=>exact⟨a6,Nat.zero_le _⟩
 case round =>
  intro l' p x bb bd aq o;unfold ubH
  gi_wp2
  refine⟨Keep.refl _ _,aq,?_⟩;rintro x2 a9 bg ⟨c,az⟩;obtain⟨b1,b2⟩:=HS p o;have aa:=ua c
  gi_wp2
  gi_loopw [20] (λi wr=>urX w x2 l la n lc g p i wr) (λi _=>(nd g p).bl-(intOf i).toNat)
  case atStart=>exact⟨0,Nat.zero_le _,rfl,aa.congr (λi F=>⟨.inl,λh=>h.elim id (λq=>absurd q (uhK _ _))⟩) (Nat.le_refl _),Keep.refl _ _⟩
  case round =>
   obtain⟨k,hk,rfl,c,aj⟩:=hrel;by_cases ak:k<(nd g p).bl
   ·have hB:=(HO p o).later c.bel;rcases hB with h0|⟨b,off,ax,hq,hB⟩
    ·omega
    obtain⟨H,⟨sa,sc,I,a5⟩,c2⟩:=hB k ak;have ay:=ud H;have ab:=ap p o k ak;obtain⟨d,R⟩:=nm ((nd g p).body k);have HD:=ua R;rw[R]at H I c2 ab;obtain⟨kd,sl,S,a7⟩:=d;simp only at H I c2 ab;have ae:=ua aj;have ag:=ua c;have g2:=c.sl;have ao:=c.size;rw[ax];by_cases e3:kd=3
    ·subst e3;obtain⟨a0,a1⟩:=ab rfl;obtain⟨a,rfl⟩:=Int.eq_ofNat_of_zero_le a0;have u:a<g.nb:=(by omega);obtain⟨f,D,J,ht⟩:=c.cnt;have L:=D.cell u;have g4:=D.frozen a;have g5:=ht a u;generalize f a=z at L g5;have l1:w.heap.size+1<wr.heap.size:=(by omega);have l2:w.heap.size+1+1<wr.heap.size:=(by omega);have ha':(a:Int)<(g.nb:Int):=(by omega);have a3:=(ag.bump u L);have af:=ua a3
     gi_wp2
     go_roundw
     case rel =>
      refine⟨k+1,by omega,by go_num,?_,?_⟩
      ·refine(af.below ((Below.refl _ _).alloc (by have:=af.size;omega) _)).congr (λi F=>?_) (by omega);show(yB g p i\/M.Throws k (nd g p).body i)\/i=a↔yB g p i\/M.Throws (k+1) (nd g p).body i;rw[qP,HD.out];show _↔yB g p i\/M.Throws k (nd g p).body i\/((3:Int)=3/\(a:Int)=i);constructor
       ·rintro ((h|h)|h)
        ·exact .inl h
        ·exact .inr (.inl h)
        exact .inr (.inr ⟨rfl,by omega⟩)
       rintro (h|h|h)
       ·exact .inl (.inl h)
       ·exact .inl (.inr h)
       exact .inr (by omega)
      exact ae.trans ((Keep.setCell (C:=λb=>b=w.heap.size+1) wr ⟨w.heap.size+1,a,none⟩ _ rfl).trans (Keep.alloc _ _ _))
     case measure=>simp[intOf];omega
    have f3:(kd==3)=false:=(by simp[e3]);have E3:=ua e3
    gi_wp2
    go_roundw
    case rel=>exact⟨k+1,by omega,by go_num,(ag.below ((Below.refl _ wr).alloc (by omega) _)).congr (λi F=>⟨λh=>h.imp id (λq=>(qP _ _ _).2 (.inl q)),λh=>h.imp id (λq=>((qP _ _ _).1 q).elim id (λr=>absurd (by rw[HD.out]at r;exact r.1) E3))⟩) (by omega),ae.trans (Keep.alloc _ _ _)⟩
    case measure=>simp[intOf];omega
   obtain rfl:k=(nd g p).bl:=by omega
   gi_wp2
   exact⟨aj,c.congr (λi F=>(uet g p i).symm) (Nat.le_refl _),by omega⟩
 case done =>
  rintro d p x R bf ⟨c,az⟩ O;obtain rfl:p=g.nr+g.nb:=by omega
  have ai:=(Array.getElem?_eq_some_iff.1 O).1;have g0:=c.box0;have g1:=c.box1;have g2:=c.sl;have ao:=c.size;have aa:=ua c
  gi_wp2
  gi_loopw [38] (λi wr=>ufn x g.nb (λj=>(g.lab j).has=false->yB g (g.nr+g.nb) j) i wr) (λi _=>g.nb-(intOf i).toNat)
  case atStart=>exact⟨0,Nat.zero_le _,rfl,Below.refl _ _,λj hj=>absurd hj (Nat.not_lt_zero _)⟩
  case round =>
   obtain⟨m,hm,rfl,v,aw⟩:=hrel;have HM:=ua aw;have Z:=ua v;have a5:=v.size;have av:=(v.block d ai).trans O;have c:=aa.below (v.mono ao);have ad:=ua c.bel;have g2:=c.sl;have l1:w.heap.size+1<wr.heap.size:=(by omega);have l2:w.heap.size+1+1<wr.heap.size:=(by omega);by_cases o:m<g.nb
   ·have N:=HF wr c.bel;obtain rfl:=N.la (by omega);have H:=N.l0 m o;have I:=N.l1 m o;have c2:=N.l2 m o;have ay:=ud H;have hlt':(m:Int)<(g.nb:Int):=(by omega);obtain⟨f,D,J,ht⟩:=c.cnt;have L:=D.cell o;have an:=J m o;generalize f m=z at L an;have HP:=ua an;cases T:(g.lab m).has with
    |true =>
     have HH:=ua T;rw[T]at I
     gi_wp2
     go_roundw
     case rel=>exact⟨m+1,by omega,by go_num,uf Z (ui wr _),vC HM (λq=>absurd (HH.symm.trans q) (by decide))⟩
     case measure=>simp[intOf];omega
    |false =>
     have HH:=ua T;rw[T]at I;by_cases hz:z=0
     ·subst hz
      gi_wp2
      have au:(wr.alloc (Obj.cells #[Value.slice (X (g.nr+m)) (nd g (g.nr+m)).nl (Y (g.nr+m)),Value.bool false,Value.slice (ba (g.nr+m)) (nd g (g.nr+m)).bl (bc (g.nr+m))] 70)).heap[d]?=some (.deferred (some [])):=(Below.heap_alloc _ _ _ (by omega)).trans ((Z.out.block d ai).trans O);refine⟨by simp,.inl ⟨_,_,rfl,run_takeDeferred au,?_⟩⟩;have ac:=xE (B:=w.heap.size) (wr.alloc (Obj.cells #[Value.slice (X (g.nr+m)) (nd g (g.nr+m)).nl (Y (g.nr+m)),Value.bool false,Value.slice (ba (g.nr+m)) (nd g (g.nr+m)).bl (bc (g.nr+m))] 70)) (.deferred none) (d:=d) (by omega) (by simp;omega);refine⟨.bool false,?_,⟨false,rfl,uV λq=>?_⟩,(uf ad (ui wr _)).trans ac⟩
      ·simp[results,Tryz.f72,go_sem]
      exact(HP.2 (q m o HH)) rfl
     have hz':((z:Int)==0)=false:=(by simp;omega);have HZ:=ua hz
     gi_wp2
     go_roundw
     case rel=>exact⟨m+1,by omega,by go_num,uf Z (ui wr _),vC HM (λ_=>HP.1 HZ)⟩
     case measure=>simp[intOf];omega
   obtain rfl:m=g.nb:=by omega
   gi_wp2
   refine⟨by simp,.inl ⟨_,_,rfl,run_takeDeferred av,?_⟩⟩;have ac:=xE (B:=w.heap.size) wr (.deferred none) (d:=d) (by omega) (by omega);refine⟨.bool true,?_,⟨true,rfl,qY HM⟩,ad.trans ac⟩;simp[results,Tryz.f72,go_sem]
 case stop =>
  rintro d cd p x R bh h O;exact h.elim
end Go.Proofs.YtimfigongapdnaaGreat
