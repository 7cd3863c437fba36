import Derived.Test.YthicmmhmmfhncaaGreatT03
import Derived.Shelf.Abstract
import Derived.Shelf.RegionOpen
import Derived.OwnWalkIn
import Derived.TacticsInMore
import Derived.LoopNIn
import Derived.LoopIn
import Derived.Deep.Slices
set_option linter.unusedVariables false
set_option linter.unusedSimpArgs false
namespace Go.Proofs.YthicmmhmmfhncaaGreat
section
open Go.RowKit Go.Shelf
open M (OpD uj Gr)
attribute [local go_sem] Oper.semAt_some
def nd(g:Gr)(p:Nat):uj:=if p<g.nr then g.rule p else g.lab (p-g.nr)
structure Flat(w:World)(ra la:Option Addr)(g:Gr)(rb ro lb lo:Nat)(na ba:Nat→Option Addr)(nc bc:Nat→Nat):Prop where
 ra:0<g.nr→ra=some ⟨rb,ro,none⟩
 la:0<g.nb→la=some ⟨lb,lo,none⟩
 r0:∀i,i<g.nr→w.cell? ⟨rb,ro+i*2,none⟩=some (.slice (na i) (nd g i).nl (nc i))
 r1:∀i,i<g.nr→w.cell? ⟨rb,ro+i*2+1,none⟩=some (.slice (ba i) (nd g i).bl (bc i))
 l0:∀i,i<g.nb→w.cell? ⟨lb,lo+i*3,none⟩=some (.slice (na (g.nr+i)) (nd g (g.nr+i)).nl (nc (g.nr+i)))
 l1:∀i,i<g.nb→w.cell? ⟨lb,lo+i*3+1,none⟩=some (.bool (g.lab i).has)
 l2:∀i,i<g.nb→w.cell? ⟨lb,lo+i*3+2,none⟩=some (.slice (ba (g.nr+i)) (nd g (g.nr+i)).bl (bc (g.nr+i)))
theorem uaW(g:Gr){i:Nat}(h:i<g.nr):nd g i=g.rule i:=by simp[nd,h]
theorem ud2(g:Gr)(i:Nat):nd g (g.nr+i)=g.lab i:=by unfold nd;rw[if_neg (by omega),show g.nr+i-g.nr=i by omega]
def ui5(g:Gr)(bx rb lb:Nat)(k:Nat):Prop:=k=bx∨(k=rb∧0<g.nr)∨(k=lb∧0<g.nb)
def ug1(g:Gr)(na ba:Nat→Option Addr)(nc bc:Nat→Nat)(p:Nat):Array Value:=#[.slice (na p) (nd g p).nl (nc p),.slice (ba p) (nd g p).bl (bc p)]
def umn(w W:World)(g:Gr)(bx rb lb:Nat)(J:Nat→World→Prop)(uou n:Nat)(i:Value)(wr:World):Prop :=
 ∃p:Nat,p≤n∧i=.int .i64 (p:Int)∧J (uou+p) wr∧W.heap.size≤wr.heap.size∧∀k,ui5 g bx rb lb k→wr.heap[k]? = w.heap[k]?
set_option maxRecDepth 100000 in
set_option maxHeartbeats 4000000 in
theorem ucF(bx:Nat)(ra la:Option Addr)(rc lc:Nat)(g:Gr)(rb ro lb lo:Nat)(na ba:Nat→Option Addr)(nc bc:Nat→Nat)(w:World)
  (h1:g.nr≤1048576) (h2:g.nb≤1048576)
  (hb0:w.cell? ⟨bx,0,none⟩=some (.slice ra g.nr rc)) (hb1:w.cell? ⟨bx,1,none⟩=some (.slice la g.nb lc)) (hF:Flat w ra la g rb ro lb lo na ba nc bc) :
  uor Tryz.prog 76 #[.pointer (some ⟨bx,0,none⟩)] 0 (fun p=>p<g.nr+g.nb) (fun p=>p+1) (ug1 g na ba nc bc) (ui5 g bx rb lb) w:=by
 intro l C J Jx W hsz hD hDC hCW hJ hJx hY h0;have hdep:Fence.wide.depth=none:=rfl;have HF:Hid (Flat w ra la g rb ro lb lo na ba nc bc):=hF;clear hF;refine callsIn_of_wp Tryz.func76 rfl trivial ?_ rfl;simp only[Tryz.ntmps76,List.size_toArray,List.length_cons,List.length_nil,Nat.reduceAdd,Nat.reduceSub,Array.replicate_succ,Array.replicate_zero,List.push_toArray,List.append_toArray,List.nil_append,List.cons_append];have hx0:W.cell? ⟨bx,0,none⟩=some (.slice ra g.nr rc):=(World.cell?_of_block (a:=⟨bx,0,none⟩) (hD bx (.inl rfl))).trans hb0
 gi_wp2
 gi_loopw [10] (fun i wr=>umn w W g bx rb lb J 0 g.nr i wr) (fun i _=>g.nr-(intOf i).toNat)
 case atStart=>exact⟨0,Nat.zero_le _,rfl,h0,Nat.le_refl _,hD⟩
 case round =>
  obtain⟨p,hp,rfl,hJs,hszr,hDr⟩:=hrel;rw[Nat.zero_add]at hJs;by_cases hlt:p<g.nr
  ·obtain rfl:=HF.out.ra (by omega)
   have c0:wr.cell? ⟨rb,ro+p*2,none⟩=some (.slice (na p) (nd g p).nl (nc p)):=(World.cell?_of_block (a:=⟨rb,ro+p*2,none⟩) (hDr rb (.inr (.inl ⟨rfl,by omega⟩)))).trans (HF.out.r0 p hlt)
   have c1:wr.cell? ⟨rb,ro+p*2+1,none⟩=some (.slice (ba p) (nd g p).bl (bc p)):=(World.cell?_of_block (a:=⟨rb,ro+p*2+1,none⟩) (hDr rb (.inr (.inl ⟨rfl,by omega⟩)))).trans (HF.out.r1 p hlt)
   have hbl:rb<wr.heap.size:=ub c0;have hJa:=hJ p wr (wr.alloc (Obj.cells #[Value.slice (na p) (nd g p).nl (nc p),Value.slice (ba p) (nd g p).bl (bc p)] 39)) hJs ((Below.refl _ wr).alloc (by omega) _)
   obtain⟨fn,tmps,assign,body,hy,hR⟩:=hY p _ hJa (by omega)
   unfold ug1 at hy;clear hJa
   gi_wp2
   refine hR.mono ?_;clear hR hy;rintro e W3 (⟨rfl,hJ3,hk3⟩|⟨rfl,hJx3,_⟩)
   ·have hD3:∀k,ui5 g bx rb lb k→W3.heap[k]? = w.heap[k]?:=fun k hk=>by
     have hkw:k<wr.heap.size:=by
      have e:=hDr k hk;have:w.heap[k]?.isSome:=by
       rcases hk with rfl | ⟨rfl,hm0⟩|⟨rfl,hm0⟩
       ·have:=ub hb0;simp[this]
       ·have:=ub (HF.out.r0 0 hm0);simp[this]
       ·have:=ub (HF.out.l0 0 hm0);simp[this]
      rw[←e]at this;rcases Nat.lt_or_ge k wr.heap.size with h | h
      ·exact h
      ·simp[h]at this
     refine (hk3.block k (by simp;omega) (hDC k hk)).trans ((Below.heap_alloc _ _ _ hkw).trans (hDr k hk))
    gi_wp2
    go_roundw
    case rel=>exact⟨p+1,by omega,by go_num,by rw[Nat.zero_add];exact hJ3,Nat.le_trans (Nat.le_trans hszr (by simp)) hk3.size,hD3⟩
    case measure=>simp[intOf];omega
   ·gi_wp2
    refine bodyPost_ret (results_none rfl _ _ _) rfl ?_;exact⟨⟨_,rfl⟩,.inr ⟨p,by omega,hJx3⟩⟩
  ·have hpn:p=g.nr:=by omega
   rw[hpn]at hJs;clear hpn;have hx1:wr.cell? ⟨bx,1,none⟩=some (.slice la g.nb lc):=(World.cell?_of_block (a:=⟨bx,1,none⟩) (hDr bx (.inl rfl))).trans hb1;obtain⟨V,eV⟩:∃V,wr=V:=⟨_,rfl⟩;subst wr
   gi_wp2
   gi_loopw [25] (fun i wr=>umn w W g bx rb lb J g.nr g.nb i wr) (fun i _=>g.nb-(intOf i).toNat)
   case atStart=>exact⟨0,Nat.zero_le _,rfl,hJs,hszr,hDr⟩
   case round =>
    clear hJs hszr hDr hx1;obtain⟨q,hq,rfl,hJs,hszr,hDr⟩:=hrel;by_cases hlt:q<g.nb
    ·obtain rfl:=HF.out.la (by omega)
     have c0:wr.cell? ⟨lb,lo+q*3,none⟩=some (.slice (na (g.nr+q)) (nd g (g.nr+q)).nl (nc (g.nr+q))):=(World.cell?_of_block (a:=⟨lb,lo+q*3,none⟩) (hDr lb (.inr (.inr ⟨rfl,by omega⟩)))).trans (HF.out.l0 q hlt)
     have c1:wr.cell? ⟨lb,lo+q*3+1,none⟩=some (.bool (g.lab q).has):=(World.cell?_of_block (a:=⟨lb,lo+q*3+1,none⟩) (hDr lb (.inr (.inr ⟨rfl,by omega⟩)))).trans (HF.out.l1 q hlt)
     have c2:wr.cell? ⟨lb,lo+q*3+2,none⟩=some (.slice (ba (g.nr+q)) (nd g (g.nr+q)).bl (bc (g.nr+q))):=(World.cell?_of_block (a:=⟨lb,lo+q*3+2,none⟩) (hDr lb (.inr (.inr ⟨rfl,by omega⟩)))).trans (HF.out.l2 q hlt)
     have hbl:lb<wr.heap.size:=ub c0;have hJa:=hJ (g.nr+q) wr (wr.alloc (Obj.cells #[Value.slice (na (g.nr+q)) (nd g (g.nr+q)).nl (nc (g.nr+q)),Value.bool (g.lab q).has,Value.slice (ba (g.nr+q)) (nd g (g.nr+q)).bl (bc (g.nr+q))] 42)) hJs ((Below.refl _ wr).alloc (by omega) _)
     obtain⟨fn,tmps,assign,body,hy,hR⟩:=hY (g.nr+q) _ hJa (by omega)
     unfold ug1 at hy;clear hJa
     gi_wp2
     refine hR.mono ?_;clear hR hy;rintro e W3 (⟨rfl,hJ3,hk3⟩|⟨rfl,hJx3,_⟩)
     ·have hD3:∀k,ui5 g bx rb lb k→W3.heap[k]? = w.heap[k]?:=fun k hk=>by
       have hkw:k<wr.heap.size:=by
        have e:=hDr k hk;have:w.heap[k]?.isSome:=by
         rcases hk with rfl | ⟨rfl,hm0⟩|⟨rfl,hm0⟩
         ·have:=ub hb0;simp[this]
         ·have:=ub (HF.out.r0 0 hm0);simp[this]
         ·have:=ub (HF.out.l0 0 hm0);simp[this]
        rw[←e]at this;rcases Nat.lt_or_ge k wr.heap.size with h | h
        ·exact h
        ·simp[h]at this
       refine (hk3.block k (by simp;omega) (hDC k hk)).trans ((Below.heap_alloc _ _ _ hkw).trans (hDr k hk))
      gi_wp2
      go_roundw
      case rel=>exact⟨q+1,by omega,by go_num,hJ3,Nat.le_trans (Nat.le_trans hszr (by simp)) hk3.size,hD3⟩
      case measure=>simp[intOf];omega
     ·gi_wp2
      refine bodyPost_ret (results_none rfl _ _ _) rfl ?_;exact⟨⟨_,rfl⟩,.inr ⟨g.nr+q,by omega,hJx3⟩⟩
    ·gi_wp2
     go_end0;exact⟨⟨_,rfl⟩,.inl ⟨g.nr+q,by omega,hJs⟩⟩
set_option maxHeartbeats 1000000 in
theorem ug2(ra la:Option Addr)(nr rc nb lc:Nat)(w:World) :
  CallsIn Fence.wide 0 Tryz.prog 44 #[.agg #[.slice ra nr rc,.slice la nb lc]] w fun e w'=>e=.returned (.func (.func 76) #[] #[.pointer (some ⟨w.heap.size,0,none⟩)])∧w'=w.alloc (.cells #[.slice ra nr rc,.slice la nb lc] 26):=by
 refine callsIn_of_wp Tryz.func44 rfl trivial ?_ rfl;simp only[Tryz.ntmps44,List.size_toArray,List.length_cons,List.length_nil,Nat.reduceAdd,Nat.reduceSub,Array.replicate_succ,Array.replicate_zero,List.push_toArray,List.append_toArray,List.nil_append,List.cons_append]
 gi_wp2
 go_ret;exact⟨rfl,rfl⟩
end
section
open Go.RowKit Go.Shelf
open M (OpD uj Gr)
attribute [local go_sem] Oper.semAt_some
def yR(g:Gr)(p:Nat):Nat:=M.sum (fun i=>(nd g i).bl) p
theorem qP(g:Gr)(p:Nat):yR g (p+1)=yR g p+(nd g p).bl:=rfl
def ud4(g:Gr):Prop:=100<g.nr∨100<g.nb∨∃p,p<g.nr+g.nb∧(2000<yR g (p+1)∨32<(nd g p).nl)
structure OvOwn(w:World)(y:Nat)(s:Int)(x:World):Prop where
 res:∃v,x.cell? ⟨y+1,0,none⟩=some v
 resf:x.frozen? ⟨y+1,0,none⟩=false
 sum:x.cell? ⟨y+1+1,0,none⟩=some (.int .i64 s)
 sumf:x.frozen? ⟨y+1+1,0,none⟩=false
 bel:Below y w x
 size:y+4≤x.heap.size
theorem OvOwn.below{w:World}{y:Nat}{s:Int}{x z:World}(h:OvOwn w y s x)(hb:Below (y+4) x z):OvOwn w y s z :=
 ⟨h.res.imp fun _ hv=>(hb.cell (p:=⟨y+1,0,none⟩) (by show y+1<y+4;omega)).trans hv,
  (hb.frozen (p:=⟨y+1,0,none⟩) (by show y+1<y+4;omega)).trans h.resf,
  (hb.cell (p:=⟨y+1+1,0,none⟩) (by show y+1+1<y+4;omega)).trans h.sum,
  (hb.frozen (p:=⟨y+1+1,0,none⟩) (by show y+1+1<y+4;omega)).trans h.sumf,h.bel.trans (hb.mono (by omega)),Nat.le_trans h.size hb.size⟩
theorem OvOwn.store{w:World}{y:Nat}{s s':Int}{x:World}(h:OvOwn w y s x)(hw:y≤w.heap.size):OvOwn w y s' (x.setCell ⟨y+1+1,0,none⟩ (.int .i64 s')) :=
 ⟨h.res.imp fun _ hv=>by rw[World.cell?_of_block (Below.heap_setCell x ⟨y+1+1,0,none⟩ _ (y+1) (by simp))];exact hv,
  (World.frozen?_setCell _ _ _ _).trans h.resf,World.cell?_setCell_same' _ _ _ (by rw[h.sum];rfl),(World.frozen?_setCell _ _ _ _).trans h.sumf,
  h.bel.setCell (p:=⟨y+1+1,0,none⟩) (by show y≤y+1+1;omega) _,by simpa[World.setCell] using h.size⟩
theorem OvOwn.answer{w:World}{y:Nat}{s:Int}{x:World}(h:OvOwn w y s x):Below y w (x.setCell ⟨y+1,0,none⟩ (.bool true))∧y+4≤(x.setCell ⟨y+1,0,none⟩ (.bool true)).heap.size∧(x.setCell ⟨y+1,0,none⟩ (.bool true)).cell? ⟨y+1,0,none⟩=some (.bool true) :=
 ⟨h.bel.setCell (p:=⟨y+1,0,none⟩) (by show y≤y+1;omega) _,by simpa[World.setCell] using h.size,by obtain⟨v,hv⟩:=h.res;exact World.cell?_setCell_same' _ _ _ (by rw[hv];rfl)⟩
def up8(w:World)(g:Gr)(p:Nat)(x:World):Prop:=OvOwn w w.heap.size (yR g p:Nat) x∧p≤g.nr+g.nb∧yR g p≤2000∧∀q,q<p→¬(2000<yR g (q+1)∨32<(nd g q).nl)
def up9(w:World)(g:Gr)(cd:Code)(p:Nat)(x:World):Prop :=
 cd=.ret∧Below w.heap.size w x∧w.heap.size+4≤x.heap.size∧x.cell? ⟨w.heap.size+1,0,none⟩=some (.bool true)∧p<g.nr+g.nb∧(2000<yR g (p+1)∨32<(nd g p).nl)
theorem ke(W:World)(v0 v1:Value)(t:TypeId):(W.alloc (.cells #[v0,v1] t)).cell? ⟨W.heap.size,0,none⟩=some v0∧(W.alloc (.cells #[v0,v1] t)).cell? ⟨W.heap.size,1,none⟩=some v1:=by
 have h:=World.alloc_heap_new W (.cells #[v0,v1] t);refine⟨?_,?_⟩<;>simp only[World.cell?,h]<;>rfl
set_option maxRecDepth 100000 in
set_option maxHeartbeats 4000000 in
theorem uex(ra la:Option Addr)(rc lc:Nat)(g:Gr)(rb ro lb lo:Nat)(na ba:Nat→Option Addr)(nc bc:Nat→Nat)(w:World)
  (hs:yb g) (hF:∀W,Below w.heap.size w W→Flat W ra la g rb ro lb lo na ba nc bc) :
  CallsIn Fence.wide 0 Tryz.prog 21 #[.agg #[.slice ra g.nr rc,.slice la g.nb lc]] w (yT (ud4 g) w):=by
 have hdep:Fence.wide.depth=none:=rfl;have h1:=hs.nr;have h2:=hs.nb;have HF:Hid (∀W,Below w.heap.size w W→Flat W ra la g rb ro lb lo na ba nc bc):=hF;have hsn:∀p,p<g.nr+g.nb→(nd g p).bl≤1048576∧(nd g p).nl≤1048576:=fun p hp=>by
  unfold nd;split
  ·exact⟨(hs.rule p (by omega)).body.1,(hs.rule p (by omega)).name⟩
  ·exact⟨(hs.lab (p-g.nr) (by omega)).body.1,(hs.lab (p-g.nr) (by omega)).name⟩
 have HS:Hid (∀p,p<g.nr+g.nb→(nd g p).bl≤1048576∧(nd g p).nl≤1048576):=hsn;have hlr:0<g.nr→rb<w.heap.size:=fun h=>ub ((hF w (Below.refl _ _)).r0 0 h)
 have hll:0<g.nb→lb<w.heap.size:=fun h=>ub ((hF w (Below.refl _ _)).l0 0 h)
 clear hF hsn hs;by_cases o1:100<g.nr
 ·have o1':(100:Int)<(g.nr:Int):=by omega
  refine callsIn_of_wp_marks Tryz.func21 rfl trivial ?_ rfl;simp only[Tryz.ntmps21,List.size_toArray,List.length_cons,List.length_nil,Nat.reduceAdd,Nat.reduceSub,Array.replicate_succ,Array.replicate_zero,List.push_toArray,List.append_toArray,List.nil_append,List.cons_append]
  gi_wp2
  refine⟨.bool true,?_,⟨true,rfl,yN (.inl o1)⟩,yx w _ _⟩;have:=uaT (w.alloc (Obj.cells #[Value.slice ra g.nr rc,Value.slice la g.nb lc] 26)) (.bool true) 4;rw[World.size_alloc]at this;simp[results,Tryz.f21,go_sem,this]
 have o1':¬(100:Int)<(g.nr:Int):=by omega
 by_cases o2:100<g.nb
 ·have o2':(100:Int)<(g.nb:Int):=by omega
  refine callsIn_of_wp_marks Tryz.func21 rfl trivial ?_ rfl;simp only[Tryz.ntmps21,List.size_toArray,List.length_cons,List.length_nil,Nat.reduceAdd,Nat.reduceSub,Array.replicate_succ,Array.replicate_zero,List.push_toArray,List.append_toArray,List.nil_append,List.cons_append]
  gi_wp2
  refine⟨.bool true,?_,⟨true,rfl,yN (.inr (.inl o2))⟩,yx w _ _⟩;have:=uaT (w.alloc (Obj.cells #[Value.slice ra g.nr rc,Value.slice la g.nb lc] 26)) (.bool true) 4;rw[World.size_alloc]at this;simp[results,Tryz.f21,go_sem,this]
 have o2':¬(100:Int)<(g.nb:Int):=by omega
 refine callsIn_of_wp_marks Tryz.func21 rfl trivial ?_ rfl;simp only[Tryz.ntmps21,List.size_toArray,List.length_cons,List.length_nil,Nat.reduceAdd,Nat.reduceSub,Array.replicate_succ,Array.replicate_zero,List.push_toArray,List.append_toArray,List.nil_append,List.cons_append]
 gi_wp2_with (refine⟨trivial,?_⟩;gi_at_call 44;refine (ug2 _ _ _ _ _ _ _).mono ?_;rintro e w' ⟨rfl,rfl⟩)
 obtain⟨Wl,hWl⟩:∃Wl,(((w.alloc (Obj.cells #[Value.slice ra g.nr rc,Value.slice la g.nb lc] 26)).alloc (Obj.cells #[Value.bool false] 4)).alloc (Obj.cells #[Value.int IntKind.i64 0] 3)).alloc (Obj.cells #[Value.slice ra g.nr rc,Value.slice la g.nb lc] 26)=Wl:=⟨_,rfl⟩;have sWl:Wl.heap.size=w.heap.size+4:=by rw[←hWl];simp
 have bWl:Below w.heap.size w Wl:=by rw[←hWl];exact ((((Below.refl _ w).alloc (Nat.le_refl _) _).alloc (by simp) _).alloc (by simp;omega) _).alloc (by simp;omega) _
 have ha:=uaT (w.alloc (Obj.cells #[Value.slice ra g.nr rc,Value.slice la g.nb lc] 26)) (.bool false) 4;have haf:=ucf (w.alloc (Obj.cells #[Value.slice ra g.nr rc,Value.slice la g.nb lc] 26)) (.bool false) 4;have hr:=uaT ((w.alloc (Obj.cells #[Value.slice ra g.nr rc,Value.slice la g.nb lc] 26)).alloc (Obj.cells #[Value.bool false] 4)) (.int .i64 0) 3;have hrf:=ucf ((w.alloc (Obj.cells #[Value.slice ra g.nr rc,Value.slice la g.nb lc] 26)).alloc (Obj.cells #[Value.bool false] 4)) (.int .i64 0) 3;have hx:=ke (((w.alloc (Obj.cells #[Value.slice ra g.nr rc,Value.slice la g.nb lc] 26)).alloc (Obj.cells #[Value.bool false] 4)).alloc (Obj.cells #[Value.int IntKind.i64 0] 3)) (.slice ra g.nr rc) (.slice la g.nb lc) 26;simp only[World.size_alloc]at ha haf hr hrf hx;rw[hWl]at hx;have oWl:OvOwn w w.heap.size 0 Wl:=⟨⟨_,by rw[←hWl];exact vp _ (vp _ ha)⟩,by rw[←hWl];exact udY _ (vp _ ha) (udY _ ha haf),by rw[←hWl];exact vp _ hr,by rw[←hWl];exact udY _ hr hrf,bWl,by omega⟩
 rw[hWl];clear hWl ha haf hr hrf;refine ue9 (gf:=76) (lb:=#[.pointer (some ⟨w.heap.size+1+1+1,0,none⟩)]) rfl (enters_of Tryz.func76 (by kernel_rfl) rfl)
  (ucF (w.heap.size+1+1+1) ra la rc lc g rb ro lb lo na ba nc bc Wl h1 h2 hx.1 hx.2 (HF.out Wl bWl)) (fun _=>rfl) ?hD (fun k=>k=w.heap.size+1∨k=w.heap.size+1+1) ?hCD ?hCw
  (up8 w g) (up9 w g) ?hI ?hIx ?h0 ?round ?done ?stop
 case hD =>
  rintro k (rfl | ⟨rfl,hm0⟩|⟨rfl,hm0⟩)
  ·omega
  ·have:=hlr hm0;omega
  ·have:=hll hm0;omega
 case hCD =>
  rintro k (rfl | ⟨rfl,hm0⟩|⟨rfl,hm0⟩) hc
  ·omega
  ·have:=hlr hm0;omega
  ·have:=hll hm0;omega
 case hCw =>
  rintro k hk hc;omega
 case hI =>
  rintro s A E ⟨ho,hp⟩ hbel;exact⟨ho.below (hbel.mono (by omega)),hp⟩
 case hIx =>
  rintro cd s A E ⟨rfl,hbe,hs,hc,hp⟩ hbel;exact⟨rfl,hbe.trans (hbel.mono (by omega)),Nat.le_trans hs hbel.size,(hbel.cell (p:=⟨w.heap.size+1,0,none⟩) (by show w.heap.size+1<_;omega)).trans hc,hp⟩
 case h0=>exact⟨oWl,Nat.zero_le _,Nat.zero_le _,fun q hq=>absurd hq (Nat.not_lt_zero _)⟩
 case round =>
  intro l' p x hl1 hl2 hIs hlt;unfold ug1
  gi_wp2
  refine⟨Keep.refl _ _,hIs,?_⟩;clear hIs;rintro x2 hk2 hs2 ⟨ho,hc1,hc2,hI2⟩;obtain⟨rv,k1⟩:=ho.res;have k2:=ho.resf;have k3:=ho.sum;have k4:=ho.sumf;have HI:Hid _:=hI2;obtain⟨b1,b2⟩:=HS.out p hlt;have hnx:=qP g p;have HX:Hid _:=hnx;clear hI2 hnx;have hst:=OvOwn.store (s':=(yR g p:Int)+((nd g p).bl:Int)) ho (Nat.le_refl _);have HST:Hid (OvOwn w w.heap.size ((yR g p:Int)+((nd g p).bl:Int)) (x2.setCell ⟨w.heap.size+1+1,0,none⟩ (.int .i64 ((yR g p:Int)+((nd g p).bl:Int))))):=hst;clear hst ho;by_cases t1:2000<yR g p+(nd g p).bl
  ·have t1':(2000:Int)<(yR g p:Int)+((nd g p).bl:Int):=by omega
   gi_wp2
   obtain⟨a1,a2,a3⟩:=HST.out.answer;exact⟨(Keep.setCell _ _ _ (.inr rfl)).trans (Keep.setCell _ _ _ (.inl rfl)),rfl,a1,a2,a3,hlt,.inl (by have:=HX.out;omega)⟩
  have t1':¬(2000:Int)<(yR g p:Int)+((nd g p).bl:Int):=by omega
  by_cases t2:32<(nd g p).nl
  ·have t2':(32:Int)<((nd g p).nl:Int):=by omega
   gi_wp2
   obtain⟨a1,a2,a3⟩:=HST.out.answer;exact⟨(Keep.setCell _ _ _ (.inr rfl)).trans (Keep.setCell _ _ _ (.inl rfl)),rfl,a1,a2,a3,hlt,.inr t2⟩
  have t2':¬(32:Int)<((nd g p).nl:Int):=by omega
  gi_wp2
  have e:((yR g (p+1):Nat):Int)=(yR g p:Int)+((nd g p).bl:Int):=by rw[HX.out];omega
  exact⟨Keep.setCell _ _ _ (.inr rfl),by rw[e];exact HST.out,by omega,by have:=HX.out;omega,vL HI.out (by have:=HX.out;omega)⟩
 case done =>
  rintro d p x hd hnm ⟨ho,hc1,hc2,hI2⟩ hK;obtain⟨rv,k1⟩:=ho.res;have k2:=ho.resf
  gi_wp2
  have hne:d≠w.heap.size+1:=by omega
  have hK':(x.setCell ⟨w.heap.size+1,0,none⟩ (.bool false)).heap[d]? = some (.deferred (some [])):=(Below.heap_setCell x ⟨w.heap.size+1,0,none⟩ _ d hne).trans hK;refine⟨by simp,.inl ⟨_,_,rfl,run_takeDeferred hK',?_⟩⟩
  have hbp:=uaU (B:=w.heap.size+4) (x.setCell ⟨w.heap.size+1,0,none⟩ (.bool false)) (.deferred none) (d:=d) (by omega) (by simpa[World.setCell] using ho.size)
  have hc4:(x.setCell ⟨w.heap.size+1,0,none⟩ (.bool false)).cell? ⟨w.heap.size+1,0,none⟩=some (.bool false):=World.cell?_setCell_same' _ _ _ (by rw[k1];rfl)
  have hc5:=(hbp.cell (p:=⟨w.heap.size+1,0,none⟩) (by show w.heap.size+1<_;omega)).trans hc4
  have hbf:=(ho.bel.setCell (p:=⟨w.heap.size+1,0,none⟩) (by show w.heap.size≤w.heap.size+1;omega) (.bool false)).trans (hbp.mono (by omega))
  refine⟨.bool false,?_,⟨false,rfl,uR ?_⟩,hbf⟩
  ·simp[results,Tryz.f21,go_sem,hc5]
  ·rintro (h | h | ⟨q,hq,h⟩)
   ·exact o1 h
   ·exact o2 h
   ·exact hI2 q (by omega) h
 case stop =>
  rintro d cd p x hd hsm ⟨rfl,hbe,hsx,hcr,hc1,hI2⟩ hK
  gi_wp2
  refine⟨by simp,.inl ⟨_,_,rfl,run_takeDeferred hK,?_⟩⟩
  have hdx:d<x.heap.size:=(Array.getElem?_eq_some_iff.1 hK).1;have hbp:=uaU (B:=w.heap.size+4) x (.deferred none) (d:=d) (by omega) hsx
  have hc5:=(hbp.cell (p:=⟨w.heap.size+1,0,none⟩) (by show w.heap.size+1<_;omega)).trans hcr
  have hbf:=hbe.trans (hbp.mono (by omega))
  refine⟨.bool true,?_,⟨true,rfl,yN (.inr (.inr ⟨p,hc1,hI2⟩))⟩,hbf⟩;simp[results,Tryz.f21,go_sem,hc5]
end
section
open Go.RowKit Go.Shelf
open M (OpD uj Gr)
attribute [local go_sem] Oper.semAt_some
theorem up6:(Tryz.prog.info? 3).map (fun i=>(i.zero,i.size,i.bytes))=some (some (.int .i64 0),1,8):=by kernel_rfl
def vX(g:Gr)(p l:Nat):Prop:=∃q,q<p∧M.Throws (nd g q).bl (nd g q).body l
def uaV(g:Gr)(p k l:Nat):Prop:=vX g p l∨M.Throws k (nd g p).body l
def udZ(g:Gr):Prop:=∀p,p<g.nr+g.nb→∀i,i<(nd g p).bl→((nd g p).body i).kind=3→0≤((nd g p).body i).arg∧((nd g p).body i).arg<g.nb
def Cnt(x:World)(b nb:Nat)(P:Nat→Prop)(top:Nat):Prop :=
 ∃f:Nat→Nat,x.rowIs b 3 nb (fun i=>.int .i64 (f i))∧(∀i,i<nb→(f i≠0↔P i))∧∀i,i<nb→f i≤top
theorem Cnt.bump{x:World}{b nb top a:Nat}{P:Nat→Prop}(h:Cnt x b nb P top)(ha:a<nb){z:Nat}(hz:x.cell? ⟨b,a,none⟩=some (.int .i64 (z:Int))) :
  Cnt (x.setCell ⟨b,a,none⟩ (.int .i64 ((z:Int)+1))) b nb (fun i=>P i∨i=a) (top+1):=by
 obtain⟨f,hr,hp,ht⟩:=h;have hfa:(f a:Int)=z:=by
  have:=hr.cell ha;rw[hz]at this;simp at this;omega
 refine⟨fun i=>if i=a then f a+1 else f i,(hr.set a _).congr fun i hi=>?_,fun i hi=>?_,fun i hi=>?_⟩
 ·by_cases e:i=a
  ·subst e;simp;omega
  ·simp[e]
 ·by_cases e:i=a
  ·subst e;simp
  ·simp[e,hp i hi]
 ·have:=ht i hi
  by_cases e:i=a
  ·subst e;simp;omega
  ·simp[e];omega
def ui3(g:Gr):Prop:=∀i,i<g.nb→(g.lab i).has=false→vX g (g.nr+g.nb) i
theorem Cnt.congr{x:World}{b nb top top':Nat}{P P':Nat→Prop}(h:Cnt x b nb P top)(e:∀i,i<nb→(P i↔P' i))(ht:top≤top'):Cnt x b nb P' top':=by
 obtain⟨f,hr,hp,hb⟩:=h;exact⟨f,hr,fun i hi=>(hp i hi).trans (e i hi),fun i hi=>Nat.le_trans (hb i hi) ht⟩
theorem Cnt.of_block{x z:World}{b nb top:Nat}{P:Nat→Prop}(h:Cnt x b nb P top)(e:z.heap[b]? = x.heap[b]?):Cnt z b nb P top:=by
 obtain⟨f,hr,hp,hb⟩:=h;exact⟨f,hr.of_block e,hp,hb⟩
theorem ug0(B:Nat→OpD)(l:Nat):¬M.Throws 0 B l:=by rintro⟨i,hi,_⟩;omega
theorem qv(k:Nat)(B:Nat→OpD)(l:Nat):M.Throws (k+1) B l↔M.Throws k B l∨((B k).kind=3∧(B k).arg=l):=by
 constructor
 ·rintro⟨i,hi,h⟩
  by_cases e:i=k
  ·subst e;exact .inr h
  ·exact .inl ⟨i,by omega,h⟩
 ·rintro (⟨i,hi,h⟩ | h)
  ·exact⟨i,by omega,h⟩
  ·exact⟨k,by omega,h⟩
theorem uew(g:Gr)(p l:Nat):vX g (p+1) l↔uaV g p (nd g p).bl l:=by
 constructor
 ·rintro⟨q,hq,h⟩
  by_cases e:q=p
  ·subst e;exact .inr h
  ·exact .inl ⟨q,by omega,h⟩
 ·rintro (⟨q,hq,h⟩ | h)
  ·exact⟨q,by omega,h⟩
  ·exact⟨p,by omega,h⟩
structure MtOwn(w:World)(y:Nat)(ra la:Option Addr)(nr rc nb lc:Nat)(P:Nat→Prop)(top:Nat)(x:World):Prop where
 box0:x.cell? ⟨y,0,none⟩=some (.slice ra nr rc)
 box1:x.cell? ⟨y,1,none⟩=some (.slice la nb lc)
 sl:x.cell? ⟨y+1+1,0,none⟩=some (.slice (some ⟨y+1,0,none⟩) nb nb)
 cnt:Cnt x (y+1) nb P top
 bel:Below y w x
 size:y+4≤x.heap.size
theorem MtOwn.below{w:World}{y:Nat}{ra la:Option Addr}{nr rc nb lc:Nat}{P:Nat→Prop}{top:Nat}{x z:World}(h:MtOwn w y ra la nr rc nb lc P top x)(hb:Below (y+4) x z):MtOwn w y ra la nr rc nb lc P top z :=
 ⟨(hb.cell (p:=⟨y,0,none⟩) (by show y<y+4;omega)).trans h.box0,(hb.cell (p:=⟨y,1,none⟩) (by show y<y+4;omega)).trans h.box1,
  (hb.cell (p:=⟨y+1+1,0,none⟩) (by show y+1+1<y+4;omega)).trans h.sl,h.cnt.of_block (hb.block _ (by omega)),h.bel.trans (hb.mono (by omega)),Nat.le_trans h.size hb.size⟩
theorem MtOwn.congr{w:World}{y:Nat}{ra la:Option Addr}{nr rc nb lc:Nat}{P P':Nat→Prop}{top top':Nat}{x:World}(h:MtOwn w y ra la nr rc nb lc P top x)(e:∀i,i<nb→(P i↔P' i))(ht:top≤top'):MtOwn w y ra la nr rc nb lc P' top' x :=
 ⟨h.box0,h.box1,h.sl,h.cnt.congr e ht,h.bel,h.size⟩
theorem MtOwn.bump{w:World}{y:Nat}{ra la:Option Addr}{nr rc nb lc:Nat}{P:Nat→Prop}{top:Nat}{x:World}(h:MtOwn w y ra la nr rc nb lc P top x){a:Nat}(ha:a<nb){z:Nat}(hz:x.cell? ⟨y+1,a,none⟩=some (.int .i64 (z:Int))) :
  MtOwn w y ra la nr rc nb lc (fun i=>P i∨i=a) (top+1) (x.setCell ⟨y+1,a,none⟩ (.int .i64 ((z:Int)+1))) :=
 ⟨by rw[World.cell?_of_block (Below.heap_setCell x ⟨y+1,a,none⟩ _ y (by simp))];exact h.box0,
  by rw[World.cell?_of_block (Below.heap_setCell x ⟨y+1,a,none⟩ _ y (by simp))];exact h.box1,
  by rw[World.cell?_of_block (Below.heap_setCell x ⟨y+1,a,none⟩ _ (y+1+1) (by simp))];exact h.sl,
  h.cnt.bump ha hz,h.bel.setCell (p:=⟨y+1,a,none⟩) (by show y≤y+1;omega) _,by simpa[World.setCell] using h.size⟩
def upk(w:World)(ra la:Option Addr)(rc lc:Nat)(g:Gr)(p:Nat)(x:World):Prop:=MtOwn w w.heap.size ra la g.nr rc g.nb lc (vX g p) (yR g p) x∧p≤g.nr+g.nb
def upl(w x2:World)(ra la:Option Addr)(rc lc:Nat)(g:Gr)(p:Nat)(i:Value)(wr:World):Prop :=
 ∃k:Nat,k≤(nd g p).bl∧i=.int .i64 (k:Int)∧MtOwn w w.heap.size ra la g.nr rc g.nb lc (uaV g p k) (yR g p+k) wr∧Keep (fun b=>b=w.heap.size+1) x2 wr
set_option maxRecDepth 100000 in
set_option maxHeartbeats 4000000 in
theorem ud0(Q:Nat→Prop)(ra la:Option Addr)(rc lc:Nat)(g:Gr)(rb ro lb lo:Nat)(na ba:Nat→Option Addr)(nc bc:Nat→Nat)(w:World)
  (hs:yb g) (hF:∀W,Below w.heap.size w W→Flat W ra la g rb ro lb lo na ba nc bc) (hO:∀p,p<g.nr+g.nb→OpsA Q w (ba p) (nd g p).bl (nd g p).body)
  (hA:udZ g) (hsum:yR g (g.nr+g.nb)≤2000) :
  CallsIn Fence.wide 0 Tryz.prog 47 #[.agg #[.slice ra g.nr rc,.slice la g.nb lc]] w (yT (ui3 g) w):=by
 have hdep:Fence.wide.depth=none:=rfl;have h1:=hs.nr;have h2:=hs.nb;have HF:Hid (∀W,Below w.heap.size w W→Flat W ra la g rb ro lb lo na ba nc bc):=hF;have HO:Hid (∀p,p<g.nr+g.nb→OpsA Q w (ba p) (nd g p).bl (nd g p).body):=hO;have HAR:Hid (udZ g):=hA;have hsn:∀p,p<g.nr+g.nb→(nd g p).bl≤1048576∧yR g p+(nd g p).bl≤2000:=fun p hp=>by
  refine⟨?_,?_⟩
  ·unfold nd
   split
   ·exact (hs.rule p (by omega)).body.1
   ·exact (hs.lab (p-g.nr) (by omega)).body.1
  ·rw[←qP]
   exact Nat.le_trans (M.sum_le _ (by omega)) hsum
 have HS:Hid (∀p,p<g.nr+g.nb→(nd g p).bl≤1048576∧yR g p+(nd g p).bl≤2000):=hsn;have hlr:0<g.nr→rb<w.heap.size:=fun h=>ub ((hF w (Below.refl _ _)).r0 0 h)
 have hll:0<g.nb→lb<w.heap.size:=fun h=>ub ((hF w (Below.refl _ _)).l0 0 h)
 have hmk:=run_make_row' (P:=Tryz.prog) 49 3 (.int .i64 0) 8 Tryz.underlying49 up6 rfl .i64 .i64 g.nb (by omega) (by omega)
 clear hF hsn hs hO hA;refine callsIn_of_wp_marks Tryz.func47 rfl trivial ?_ rfl;simp only[Tryz.ntmps47,List.size_toArray,List.length_cons,List.length_nil,Nat.reduceAdd,Nat.reduceSub,Array.replicate_succ,Array.replicate_zero,List.push_toArray,List.append_toArray,List.nil_append,List.cons_append]
 gi_wp2_with (refine⟨trivial,?_⟩;gi_at_call 44;refine (ug2 _ _ _ _ _ _ _).mono ?_;rintro e w' ⟨rfl,rfl⟩)
 obtain⟨Wl,hWl⟩:∃Wl,(((w.alloc (Obj.cells #[Value.slice ra g.nr rc,Value.slice la g.nb lc] 26)).alloc (Obj.cells (madeCells #[Value.int IntKind.i64 0] g.nb) 3)).alloc (Obj.cells #[Value.slice (some ⟨w.heap.size+1,0,none⟩) g.nb g.nb] 49)).alloc (Obj.cells #[Value.slice ra g.nr rc,Value.slice la g.nb lc] 26)=Wl:=⟨_,rfl⟩;have sWl:Wl.heap.size=w.heap.size+4:=by rw[←hWl];simp
 have bWl:Below w.heap.size w Wl:=by rw[←hWl];exact ((((Below.refl _ w).alloc (Nat.le_refl _) _).alloc (by simp) _).alloc (by simp;omega) _).alloc (by simp;omega) _
 have ha:=ke w (.slice ra g.nr rc) (.slice la g.nb lc) 26;have hm:=World.rowIs_made (w.alloc (Obj.cells #[Value.slice ra g.nr rc,Value.slice la g.nb lc] 26)) (.int .i64 0) g.nb 3;have hr:=uaT ((w.alloc (Obj.cells #[Value.slice ra g.nr rc,Value.slice la g.nb lc] 26)).alloc (Obj.cells (madeCells #[Value.int IntKind.i64 0] g.nb) 3)) (.slice (some ⟨w.heap.size+1,0,none⟩) g.nb g.nb) 49;have hx:=ke (((w.alloc (Obj.cells #[Value.slice ra g.nr rc,Value.slice la g.nb lc] 26)).alloc (Obj.cells (madeCells #[Value.int IntKind.i64 0] g.nb) 3)).alloc (Obj.cells #[Value.slice (some ⟨w.heap.size+1,0,none⟩) g.nb g.nb] 49)) (.slice ra g.nr rc) (.slice la g.nb lc) 26;simp only[World.size_alloc]at ha hm hr hx;rw[hWl]at hx;have oWl:MtOwn w w.heap.size ra la g.nr rc g.nb lc (vX g 0) (yR g 0) Wl:=by
  rw[←hWl];refine⟨vp _ (vp _ (vp _ ha.1)),vp _ (vp _ (vp _ ha.2)),vp _ hr,⟨fun _=>0,((hm.alloc _).alloc _).congr fun i hi=>rfl,fun i hi=>?_,fun i hi=>Nat.zero_le _⟩,by rw[hWl];exact bWl,by rw[hWl];omega⟩
  exact⟨fun h=>absurd rfl h,fun ⟨q,hq,_⟩=>absurd hq (Nat.not_lt_zero _)⟩
 rw[hWl];clear hWl ha hm hr hmk;refine ue9 (gf:=76) (lb:=#[.pointer (some ⟨w.heap.size+1+1+1,0,none⟩)]) rfl (enters_of Tryz.func76 (by kernel_rfl) rfl)
  (ucF (w.heap.size+1+1+1) ra la rc lc g rb ro lb lo na ba nc bc Wl h1 h2 hx.1 hx.2 (HF.out Wl bWl)) (fun _=>rfl) ?hD (fun k=>k=w.heap.size+1) ?hCD ?hCw
  (upk w ra la rc lc g) (fun _ _ _=>False) ?hI ?hIx ?h0 ?round ?done ?stop
 case hD =>
  rintro k (rfl | ⟨rfl,hm0⟩|⟨rfl,hm0⟩)
  ·omega
  ·have:=hlr hm0;omega
  ·have:=hll hm0;omega
 case hCD =>
  rintro k (rfl | ⟨rfl,hm0⟩|⟨rfl,hm0⟩) hc
  ·omega
  ·have:=hlr hm0;omega
  ·have:=hll hm0;omega
 case hCw =>
  rintro k hk hc;omega
 case hI =>
  rintro s A E ⟨ho,hp⟩ hbel;exact⟨ho.below (hbel.mono (by omega)),hp⟩
 case hIx =>
  rintro cd s A E h hbel;exact h
 case h0=>exact⟨oWl,Nat.zero_le _⟩
 case round =>
  intro l' p x hl1 hl2 hIs hlt;unfold ug1
  gi_wp2
  refine⟨Keep.refl _ _,hIs,?_⟩;clear hIs;rintro x2 hk2 hs2 ⟨ho,hc1⟩;obtain⟨b1,b2⟩:=HS.out p hlt;have HOW:Hid (MtOwn w w.heap.size ra la g.nr rc g.nb lc (vX g p) (yR g p) x2):=ho;clear ho
  gi_wp2
  gi_loopw [20] (fun i wr=>upl w x2 ra la rc lc g p i wr) (fun i _=>(nd g p).bl-(intOf i).toNat)
  case atStart=>exact⟨0,Nat.zero_le _,rfl,HOW.out.congr (fun i hi=>⟨.inl,fun h=>h.elim id (fun q=>absurd q (ug0 _ _))⟩) (Nat.le_refl _),Keep.refl _ _⟩
  case round =>
   obtain⟨k,hk,rfl,ho,hkp⟩:=hrel;by_cases hlk:k<(nd g p).bl
   ·have hB:=(HO.out p hlt).later ho.bel
    rcases hB with h0 | ⟨b,off,hba,hq,hB⟩
    ·omega
    obtain⟨c0,⟨sa,sc,c1,hsx⟩,c2⟩:=hB k hlk;clear hsx hB;have hbl:b<wr.heap.size:=ub c0;have harg:=HAR.out p hlt k hlk;obtain⟨d,hd⟩:∃d,(nd g p).body k=d:=⟨_,rfl⟩;have HD:Hid ((nd g p).body k=d):=hd;rw[hd]at c0 c1 c2 harg;clear hd;obtain⟨kd,sl,S,arg⟩:=d;simp only at c0 c1 c2 harg;have HKP:Hid (Keep (fun b=>b=w.heap.size+1) x2 wr):=hkp
    have HW2:Hid (MtOwn w w.heap.size ra la g.nr rc g.nb lc (uaV g p k) (yR g p+k) wr):=ho;have g2:=ho.sl;have hsz:=ho.size;clear hkp;rw[hba];by_cases e3:kd=3
    ·subst e3
     obtain⟨a0,a1⟩:=harg rfl;obtain⟨a,rfl⟩:=Int.eq_ofNat_of_zero_le a0;have ha:a<g.nb:=by omega
     obtain⟨f,hr,hp,ht⟩:=ho.cnt;have g3:=hr.cell ha;have g4:=hr.frozen a;have g5:=ht a ha;clear ho hr hp ht harg;generalize f a=z at g3 g5;have l1:w.heap.size+1<wr.heap.size:=by omega
     have l2:w.heap.size+1+1<wr.heap.size:=by omega
     have ha':(a:Int)<(g.nb:Int):=by omega
     have hst:=(HW2.out.bump ha g3);have HST:Hid (MtOwn w w.heap.size ra la g.nr rc g.nb lc (fun i=>uaV g p k i∨i=a) (yR g p+k+1) (wr.setCell ⟨w.heap.size+1,a,none⟩ (.int .i64 ((z:Int)+1)))):=hst
     clear hst
     gi_wp2
     go_roundw
     case rel =>
      refine⟨k+1,by omega,by go_num,?_,?_⟩
      ·refine (HST.out.below ((Below.refl _ _).alloc (by have:=HST.out.size;omega) _)).congr (fun i hi=>?_) (by omega)
       show (vX g p i∨M.Throws k (nd g p).body i)∨i=a↔vX g p i∨M.Throws (k+1) (nd g p).body i;rw[qv,HD.out];show _↔vX g p i∨M.Throws k (nd g p).body i∨((3:Int)=3∧(a:Int)=i);constructor
       ·rintro ((h | h) | h)
        ·exact .inl h
        ·exact .inr (.inl h)
        ·exact .inr (.inr ⟨rfl,by omega⟩)
       ·rintro (h | h | h)
        ·exact .inl (.inl h)
        ·exact .inl (.inr h)
        ·exact .inr (by omega)
      ·exact HKP.out.trans ((Keep.setCell (C:=fun b=>b=w.heap.size+1) wr ⟨w.heap.size+1,a,none⟩ _ rfl).trans (Keep.alloc _ _ _))
     case measure=>simp[intOf];omega
    ·have f3:(kd==3)=false:=by simp[e3]
     have E3:Hid (¬kd=3):=e3;clear e3 ho harg
     gi_wp2
     go_roundw
     case rel=>exact⟨k+1,by omega,by go_num,(HW2.out.below ((Below.refl _ wr).alloc (by omega) _)).congr (fun i hi=>⟨fun h=>h.imp id (fun q=>(qv _ _ _).2 (.inl q)),fun h=>h.imp id (fun q=>((qv _ _ _).1 q).elim id (fun r=>absurd (by rw[HD.out]at r;exact r.1) E3.out))⟩) (by omega),HKP.out.trans (Keep.alloc _ _ _)⟩
     case measure=>simp[intOf];omega
   ·obtain rfl:k=(nd g p).bl:=by omega
    gi_wp2
    exact⟨hkp,ho.congr (fun i hi=>(uew g p i).symm) (Nat.le_refl _),by omega⟩
 case done =>
  rintro d p x hd hnm ⟨ho,hc1⟩ hK;obtain rfl:p=g.nr+g.nb:=by omega
  have hdx:d<x.heap.size:=(Array.getElem?_eq_some_iff.1 hK).1;have g0:=ho.box0;have g1:=ho.box1;have g2:=ho.sl;have hsz:=ho.size;have HOW:Hid (MtOwn w w.heap.size ra la g.nr rc g.nb lc (vX g (g.nr+g.nb)) (yR g (g.nr+g.nb)) x):=ho;clear ho
  gi_wp2
  gi_loopw [38] (fun i wr=>ufD x g.nb (fun j=>(g.lab j).has=false→vX g (g.nr+g.nb) j) i wr) (fun i _=>g.nb-(intOf i).toNat)
  case atStart=>exact⟨0,Nat.zero_le _,rfl,Below.refl _ _,fun j hj=>absurd hj (Nat.not_lt_zero _)⟩
  case round =>
   obtain⟨m,hm,rfl,hbel,hall⟩:=hrel;have HM:Hid (∀j,j<m→(g.lab j).has=false→vX g (g.nr+g.nb) j):=hall;have HBE:Hid (Below x.heap.size x wr):=hbel;have hsx:=hbel.size;have hKr:wr.heap[d]? = some (.deferred (some [])):=(hbel.block d hdx).trans hK;have ho:=HOW.out.below (hbel.mono hsz);have HBX:Hid (Below w.heap.size w wr):=ho.bel;clear hall g0 g1 g2;have g2:=ho.sl;have l1:w.heap.size+1<wr.heap.size:=by omega
   have l2:w.heap.size+1+1<wr.heap.size:=by omega
   by_cases hlt:m<g.nb
   ·have hFl:=HF.out wr ho.bel
    obtain rfl:=hFl.la (by omega)
    have c0:=hFl.l0 m hlt;have c1:=hFl.l1 m hlt;have c2:=hFl.l2 m hlt;have hbl:lb<wr.heap.size:=ub c0;have hlt':(m:Int)<(g.nb:Int):=by omega
    clear hFl hbel;obtain⟨f,hr,hp,ht⟩:=ho.cnt;have g3:=hr.cell hlt;have hpm:=hp m hlt;clear hr hp ht ho hKr;generalize f m=z at g3 hpm;have HP:Hid (z≠0↔vX g (g.nr+g.nb) m):=hpm;clear hpm;cases hh:(g.lab m).has with
    |true =>
     have HH:Hid ((g.lab m).has=true):=hh;rw[hh]at c1;clear hh
     gi_wp2
     go_roundw
     case rel=>exact⟨m+1,by omega,by go_num,uh HBE.out (up wr _),vL HM.out (fun q=>absurd (HH.out.symm.trans q) (by decide))⟩
     case measure=>simp[intOf];omega
    |false =>
     have HH:Hid ((g.lab m).has=false):=hh;rw[hh]at c1;clear hh;by_cases hz:z=0
     ·subst hz
      gi_wp2
      have hK2:(wr.alloc (Obj.cells #[Value.slice (na (g.nr+m)) (nd g (g.nr+m)).nl (nc (g.nr+m)),Value.bool false,Value.slice (ba (g.nr+m)) (nd g (g.nr+m)).bl (bc (g.nr+m))] 42)).heap[d]? = some (.deferred (some [])):=(Below.heap_alloc _ _ _ (by omega)).trans ((HBE.out.block d hdx).trans hK)
      refine⟨by simp,.inl ⟨_,_,rfl,run_takeDeferred hK2,?_⟩⟩
      have hbp:=uaU (B:=w.heap.size) (wr.alloc (Obj.cells #[Value.slice (na (g.nr+m)) (nd g (g.nr+m)).nl (nc (g.nr+m)),Value.bool false,Value.slice (ba (g.nr+m)) (nd g (g.nr+m)).bl (bc (g.nr+m))] 42)) (.deferred none) (d:=d) (by omega) (by simp;omega)
      refine⟨.bool false,?_,⟨false,rfl,uR fun q=>?_⟩,(uh HBX.out (up wr _)).trans hbp⟩
      ·simp[results,Tryz.f47,go_sem]
      ·exact (HP.out.2 (q m hlt HH.out)) rfl
     ·have hz':((z:Int)==0)=false:=by simp;omega
      have HZ:Hid (¬z=0):=hz;clear hz
      gi_wp2
      go_roundw
      case rel=>exact⟨m+1,by omega,by go_num,uh HBE.out (up wr _),vL HM.out (fun _=>HP.out.1 HZ.out)⟩
      case measure=>simp[intOf];omega
   ·obtain rfl:m=g.nb:=by omega
    clear hbel
    gi_wp2
    refine⟨by simp,.inl ⟨_,_,rfl,run_takeDeferred hKr,?_⟩⟩
    have hbp:=uaU (B:=w.heap.size) wr (.deferred none) (d:=d) (by omega) (by omega)
    refine⟨.bool true,?_,⟨true,rfl,yN HM.out⟩,HBX.out.trans hbp⟩;simp[results,Tryz.f47,go_sem]
 case stop =>
  rintro d cd p x hd hsm h hK;exact h.elim
end
end Go.Proofs.YthicmmhmmfhncaaGreat
