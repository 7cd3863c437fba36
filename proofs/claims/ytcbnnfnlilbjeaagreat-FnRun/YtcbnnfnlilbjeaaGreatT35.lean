import Derived.Test.YtcbnnfnlilbjeaaGreatT12
import Derived.Test.YtcbnnfnlilbjeaaGreatT05
import Derived.RangeFuncBox
import Derived.Test.YtcbnnfnlilbjeaaGreatT07
import Derived.Deep.WholeRow
set_option linter.unusedVariables false
set_option linter.unusedSimpArgs false
namespace Go.Proofs.YtcbnnfnlilbjeaaGreat
section
open Go.RowKit Go.Shelf
attribute [local go_sem] Oper.semAt_some
def prEnc(S:Nat→Int)(p:Nat):Array Value:=#[.int .i64 (S (2*p)),.int .i64 (S (2*p+1))]
def prLean(bx sb n:Nat)(k:Nat):Prop:=k=bx∨(k=sb∧0<n)
def ipairsI(w W:World)(n bx sb:Nat)(J:Nat→World→Prop)(i:Value)(wr:World):Prop :=
 ∃p:Nat,2*p≤n+1∧i=.int .i64 (2*(p:Int)+1)∧J p wr∧W.heap.size≤wr.heap.size∧∀k,prLean bx sb n k→wr.heap[k]? = w.heap[k]?
set_option maxRecDepth 100000 in
set_option maxHeartbeats 4000000 in
theorem pairs_gives(bx:Nat)(a:Option Addr)(n c:Nat)(S:Nat→Int)(sb so:Nat)(w:World)(hn:n≤1048576)(hx:w.cell? ⟨bx,0,none⟩=some (.slice a n c))(ha:0<n→a=some ⟨sb,so,none⟩)(hS:∀i,i<n→w.cell? ⟨sb,so+i,none⟩=some (.int .i64 (S i))) :
  Gives Tryz.prog 115 #[.pointer (some ⟨bx,0,none⟩)] (0:Nat) (fun p=>2*p+1<n) (fun p=>p+1) (prEnc S) (prLean bx sb n) w:=by
 intro l C J Jx W hsz hD hDC hCW hJ hJx hY h0;have hdep:Fence.wide.depth=none:=rfl;have HS:Hid (∀i,i<n→w.cell? ⟨sb,so+i,none⟩=some (.int .i64 (S i))):=hS;have hlx:bx<w.heap.size:=lt_of_cell hx;clear hS;have hmo:Tryz.prog.follows .mixedOrders=true:=by kernel_rfl
 refine callsIn_of_wp Tryz.func115 rfl trivial ?_ rfl;simp only[Tryz.ntmps115,List.size_toArray,List.length_cons,List.length_nil,Nat.reduceAdd,Nat.reduceSub,Array.replicate_succ,Array.replicate_zero,List.push_toArray,List.append_toArray,List.nil_append,List.cons_append]
 gi_wp2
 gi_loopw [3] (fun i wr=>ipairsI w W n bx sb J i wr) (fun i _=>n+2-(intOf i).toNat)
 case atStart=>exact⟨0,by omega,rfl,h0,Nat.le_refl _,hD⟩
 case round =>
  obtain⟨p,hp,rfl,hJs,hszr,hDr⟩:=hrel;have hxr:wr.cell? ⟨bx,0,none⟩=some (.slice a n c):=(World.cell?_of_block (a:=⟨bx,0,none⟩) (hDr bx (.inl rfl))).trans hx;by_cases hlt:2*p+1<n
  ·obtain rfl:=ha (by omega)
   have c0:wr.cell? ⟨sb,so+2*p,none⟩=some (.int .i64 (S (2*p))):=(World.cell?_of_block (a:=⟨sb,so+2*p,none⟩) (hDr sb (.inr ⟨rfl,by omega⟩))).trans (HS.out (2*p) (by omega))
   have c1:wr.cell? ⟨sb,so+(2*p+1),none⟩=some (.int .i64 (S (2*p+1))):=(World.cell?_of_block (a:=⟨sb,so+(2*p+1),none⟩) (hDr sb (.inr ⟨rfl,by omega⟩))).trans (HS.out (2*p+1) hlt)
   have hlt':2*(p:Int)+1<(n:Int):=by omega
   have hlt2:2*(p:Int)<(n:Int):=by omega
   have t1:(2*(p:Int)).toNat=2*p:=by omega
   have t2:(2*(p:Int)+1).toNat=2*p+1:=by omega
   have w1:IntKind.i64.wrap (2*(p:Int)+1-1)=2*(p:Int):=by rw[show 2*(p:Int)+1-1=2*(p:Int) by omega,IntKind.wrap_i64];omega
   have w2:IntKind.i64.wrap (2*(p:Int))=2*(p:Int):=by rw[IntKind.wrap_i64];omega
   have z1:(0:Int)≤2*(p:Int):=by omega
   have z2:(0:Int)≤2*(p:Int)+1:=by omega
   have hJa:=hJ p wr wr.drew hJs (Below.refl _ wr).drew;obtain⟨fn,tmps,assign,body,hy,hR⟩:=hY p _ hJa hlt;unfold prEnc at hy;have hR':=hR.mono (R':=fun e z=>∃bv:Bool,e=.returned (.bool bv)∧Keep C wr.drew z∧((bv=true∧J (p+1) z)∨(bv=false∧Jx p z))) (by
    rintro e z (⟨rfl,h1,h2⟩|⟨rfl,h1,h2⟩)
    ·exact⟨true,rfl,h2,.inl ⟨rfl,h1⟩⟩
    ·exact⟨false,rfl,h2,.inr ⟨rfl,h1⟩⟩)
   clear hR hJa;have HD:Hid (∀k,prLean bx sb n k→wr.heap[k]? = w.heap[k]?):=hDr;clear hDr
   gi_wp2
   gi_region_with_o (refine hR'.mono ?_;rintro e z ⟨bv,rfl,hz⟩)
   all_goals
    obtain⟨hk3,hz⟩:=hz;rcases hz with⟨rfl,hJ3⟩|⟨rfl,hJx3⟩
    ·have hD3:∀k,prLean bx sb n k→z.heap[k]? = w.heap[k]?:=fun k hk=>by
      have hkw:k<wr.heap.size:=by
       have e:=HD.out k hk;have:w.heap[k]?.isSome:=by
        rcases hk with rfl | ⟨rfl,hm0⟩
        ·simp[hlx]
        ·have:=lt_of_cell (HS.out 0 hm0);simp[this]
       rw[←e]at this;rcases Nat.lt_or_ge k wr.heap.size with h | h
       ·exact h
       ·simp[h]at this
      exact (hk3.block k hkw (hDC k hk)).trans (HD.out k hk)
     gi_wp2
     go_roundw
     case rel=>exact⟨p+1,by omega,by go_num,hJ3,Nat.le_trans hszr hk3.size,hD3⟩
     case measure=>simp[intOf];omega
    ·gi_wp2
     refine bodyPost_ret (results_none rfl _ _ _) rfl ?_;exact⟨⟨_,rfl⟩,.inr ⟨p,hlt,hJx3⟩⟩
  ·have hlt':¬2*(p:Int)+1<(n:Int):=by omega
   gi_wp2
   go_end0;exact⟨⟨_,rfl⟩,.inl ⟨p,by omega,hJs⟩⟩
set_option maxHeartbeats 1000000 in
theorem pairs_in(a:Option Addr)(n c:Nat)(w:World) :
  CallsIn Fence.wide 0 Tryz.prog 112 #[.slice a n c] w fun e w'=>e=.returned (.func (.func 115) #[] #[.pointer (some ⟨w.heap.size,0,none⟩)])∧w'=w.alloc (.cells #[.slice a n c] 33):=by
 refine callsIn_of_wp Tryz.func112 rfl trivial ?_ rfl;simp only[Tryz.ntmps112,List.size_toArray,List.length_cons,List.length_nil,Nat.reduceAdd,Nat.reduceSub,Array.replicate_succ,Array.replicate_zero,List.push_toArray,List.append_toArray,List.nil_append,List.cons_append]
 gi_wp2
 go_ret;exact⟨rfl,rfl⟩
structure HoOwn(w:World)(y:Nat)(b:Int)(x:World):Prop where
 byte:x.cell? ⟨y,0,none⟩=some (.int .i64 b)
 res:∃v,x.cell? ⟨y+1,0,none⟩=some v
 resf:x.frozen? ⟨y+1,0,none⟩=false
 bel:Below y w x
 size:y+3≤x.heap.size
theorem HoOwn.below{w:World}{y:Nat}{b:Int}{x z:World}(h:HoOwn w y b x)(hb:Below (y+3) x z):HoOwn w y b z :=
 ⟨(hb.cell (p:=⟨y,0,none⟩) (by show y<y+3;omega)).trans h.byte,h.res.imp fun _ hv=>(hb.cell (p:=⟨y+1,0,none⟩) (by show y+1<y+3;omega)).trans hv,
  (hb.frozen (p:=⟨y+1,0,none⟩) (by show y+1<y+3;omega)).trans h.resf,h.bel.trans (hb.mono (by omega)),Nat.le_trans h.size hb.size⟩
theorem HoOwn.answer{w:World}{y:Nat}{b:Int}{x:World}(h:HoOwn w y b x)(r:Bool):Below y w (x.setCell ⟨y+1,0,none⟩ (.bool r))∧y+3≤(x.setCell ⟨y+1,0,none⟩ (.bool r)).heap.size∧(x.setCell ⟨y+1,0,none⟩ (.bool r)).cell? ⟨y+1,0,none⟩=some (.bool r) :=
 ⟨h.bel.setCell (p:=⟨y+1,0,none⟩) (by show y≤y+1;omega) _,by simpa[World.setCell] using h.size,by obtain⟨v,hv⟩:=h.res;exact World.cell?_setCell_same' _ _ _ (by rw[hv];rfl)⟩
def ihoI(w:World)(n:Nat)(S:Nat→Int)(b:Int)(p:Nat)(x:World):Prop:=HoOwn w w.heap.size b x∧2*p≤n+1∧hasP S b p=false
def ihoX(w:World)(n:Nat)(S:Nat→Int)(b:Int)(cd:Code)(p:Nat)(x:World):Prop :=
 cd=.ret∧Below w.heap.size w x∧w.heap.size+3≤x.heap.size∧x.cell? ⟨w.heap.size+1,0,none⟩=some (.bool true)∧2*p+1<n∧hasP S b (p+1)=true
set_option maxRecDepth 100000 in
set_option maxHeartbeats 4000000 in
theorem holds_in(a:Option Addr)(n c:Nat)(S:Nat→Int)(b:Int)(sb so:Nat)(w:World)(hn:n≤1048576)(ha:0<n→a=some ⟨sb,so,none⟩)(hS:∀i,i<n→w.cell? ⟨sb,so+i,none⟩=some (.int .i64 (S i))) :
  CallsIn Fence.wide 0 Tryz.prog 102 #[.slice a n c,.int .i64 b] w (TellsB (hasN n S b) w):=by
 have hdep:Fence.wide.depth=none:=rfl;have HS:Hid (∀i,i<n→w.cell? ⟨sb,so+i,none⟩=some (.int .i64 (S i))):=hS;have hll:0<n→sb<w.heap.size:=fun h=>lt_of_cell (hS 0 h)
 clear hS;refine callsIn_of_wp_marks Tryz.func102 rfl trivial ?_ rfl;simp only[Tryz.ntmps102,List.size_toArray,List.length_cons,List.length_nil,Nat.reduceAdd,Nat.reduceSub,Array.replicate_succ,Array.replicate_zero,List.push_toArray,List.append_toArray,List.nil_append,List.cons_append]
 gi_wp2_with (refine⟨trivial,?_⟩;gi_at_call 112;refine (pairs_in _ _ _ _).mono ?_;rintro e w' ⟨rfl,rfl⟩)
 obtain⟨Wl,hWl⟩:∃Wl,((w.alloc (Obj.cells #[Value.int IntKind.i64 b] 3)).alloc (Obj.cells #[Value.bool false] 4)).alloc (Obj.cells #[Value.slice a n c] 33)=Wl:=⟨_,rfl⟩;have sWl:Wl.heap.size=w.heap.size+3:=by rw[←hWl];simp
 have bWl:Below w.heap.size w Wl:=by rw[←hWl];exact (((Below.refl _ w).alloc (Nat.le_refl _) _).alloc (by simp) _).alloc (by simp;omega) _
 have hb0:=cellNew w (.int .i64 b) 3;have hr:=cellNew (w.alloc (Obj.cells #[Value.int IntKind.i64 b] 3)) (.bool false) 4;have hrf:=frozenNew (w.alloc (Obj.cells #[Value.int IntKind.i64 b] 3)) (.bool false) 4;have hx:=cellNew ((w.alloc (Obj.cells #[Value.int IntKind.i64 b] 3)).alloc (Obj.cells #[Value.bool false] 4)) (.slice a n c) 33;simp only[World.size_alloc]at hb0 hr hrf hx;rw[hWl]at hx;have oWl:HoOwn w w.heap.size b Wl:=⟨by rw[←hWl];exact cellOn _ (cellOn _ hb0),⟨_,by rw[←hWl];exact cellOn _ hr⟩,by rw[←hWl];exact frozenOn _ hr hrf,bWl,by omega⟩
 have sW:∀i,i<n→Wl.cell? ⟨sb,so+i,none⟩=some (.int .i64 (S i)):=fun i hi=>cell_on (HS.out i hi) bWl
 rw[hWl];clear hWl hb0 hr hrf;refine range_law (gf:=115) (lb:=#[.pointer (some ⟨w.heap.size+1+1,0,none⟩)]) rfl (enters_of Tryz.func115 (by kernel_rfl) rfl)
  (pairs_gives (w.heap.size+1+1) a n c S sb so Wl hn hx ha sW) (fun _=>rfl) ?hD (fun k=>k=w.heap.size+1) ?hCD ?hCw
  (ihoI w n S b) (ihoX w n S b) ?hI ?hIx ?h0 ?round ?done ?stop
 case hD =>
  rintro k (rfl | ⟨rfl,hm0⟩)
  ·omega
  ·have:=hll hm0;omega
 case hCD =>
  rintro k (rfl | ⟨rfl,hm0⟩) hc
  ·omega
  ·have:=hll hm0;omega
 case hCw =>
  rintro k hk hc;omega
 case hI =>
  rintro s A E ⟨ho,hp⟩ hbel;exact⟨ho.below (hbel.mono (by omega)),hp⟩
 case hIx =>
  rintro cd s A E ⟨rfl,hbe,hs,hc,hp⟩ hbel;exact⟨rfl,hbe.trans (hbel.mono (by omega)),Nat.le_trans hs hbel.size,(hbel.cell (p:=⟨w.heap.size+1,0,none⟩) (by show w.heap.size+1<_;omega)).trans hc,hp⟩
 case h0=>exact⟨oWl,by omega,rfl⟩
 case round =>
  intro l' p x hl1 hl2 hIs hlt;unfold prEnc
  gi_wp2
  refine⟨Keep.refl _ _,hIs,?_⟩;clear hIs;rintro x2 hk2 hs2 ⟨ho,hc1,hI2⟩;obtain⟨rv,k1⟩:=ho.res;have k2:=ho.resf;have k3:=ho.byte;have HI:Hid (hasP S b p=false):=hI2;have HO:Hid (HoOwn w w.heap.size b x2):=ho;clear hI2 ho;obtain⟨u,hu⟩:∃u,S (2*p)=u:=⟨_,rfl⟩;obtain⟨v,hv⟩:∃v,S (2*p+1)=v:=⟨_,rfl⟩;have HU:Hid (S (2*p)=u):=hu;have HV:Hid (S (2*p+1)=v):=hv;rw[hu,hv];clear hu hv;have hlt0:2*p+1<n:=hlt;by_cases q1:u≤b
  ·by_cases q2:b≤v
   ·have HT:Hid (hasP S b (p+1)=true):=by show _=_;rw[hasP,HU.out,HV.out];simp[q1,q2]
    gi_wp2
    obtain⟨a1,a2,a3⟩:=HO.out.answer true;exact⟨Keep.setCell _ _ _ rfl,rfl,a1,a2,a3,hlt0,HT.out⟩
   ·have HT:Hid (hasP S b (p+1)=false):=by show _=_;rw[hasP,HU.out,HV.out,HI.out];simp[q2]
    gi_wp2
    exact⟨Keep.refl _ _,HO.out,by omega,HT.out⟩
  ·have HT:Hid (hasP S b (p+1)=false):=by show _=_;rw[hasP,HU.out,HV.out,HI.out];simp[q1]
   gi_wp2
   exact⟨Keep.refl _ _,HO.out,by omega,HT.out⟩
 case done =>
  rintro d p x hd hnm ⟨ho,hc1,hI2⟩ hK;obtain⟨rv,k1⟩:=ho.res;have k2:=ho.resf;have hnm':¬2*p+1<n:=hnm
  gi_wp2
  have hne:d≠w.heap.size+1:=by omega
  have hK':(x.setCell ⟨w.heap.size+1,0,none⟩ (.bool false)).heap[d]? = some (.deferred (some [])):=(Below.heap_setCell x ⟨w.heap.size+1,0,none⟩ _ d hne).trans hK;refine⟨by simp,.inl ⟨_,_,rfl,run_takeDeferred hK',?_⟩⟩
  obtain⟨a1,a2,a3⟩:=ho.answer false;have hbp:=belowPut (B:=w.heap.size+3) (x.setCell ⟨w.heap.size+1,0,none⟩ (.bool false)) (.deferred none) (d:=d) (by omega) a2
  have hc5:=(hbp.cell (p:=⟨w.heap.size+1,0,none⟩) (by show w.heap.size+1<_;omega)).trans a3
  have hF:hasN n S b=false:=by
   unfold hasN;cases q:hasP S b (n / 2) with
   |false=>rfl
   |true=>rw[hasP_mono S b (by omega) q]at hI2;cases hI2
  refine⟨.bool false,?_,by rw[hF],a1.trans (hbp.mono (by omega))⟩
  simp[results,Tryz.f102,go_sem,hc5]
 case stop =>
  rintro d cd p x hd hsm ⟨rfl,hbe,hsx,hcr,hc1,hI2⟩ hK
  gi_wp2
  refine⟨by simp,.inl ⟨_,_,rfl,run_takeDeferred hK,?_⟩⟩
  have hdx:d<x.heap.size:=(Array.getElem?_eq_some_iff.1 hK).1;have hbp:=belowPut (B:=w.heap.size+3) x (.deferred none) (d:=d) (by omega) hsx
  have hc5:=(hbp.cell (p:=⟨w.heap.size+1,0,none⟩) (by show w.heap.size+1<_;omega)).trans hcr
  have hT:hasN n S b=true:=hasP_mono S b (m:=p+1) (by omega) hI2
  refine⟨.bool true,?_,by rw[hT],hbe.trans (hbp.mono (by omega))⟩
  simp[results,Tryz.f102,go_sem,hc5]
theorem holds_any(Q:Nat→Prop)(a:Option Addr)(n c:Nat)(S:Nat→Int)(b:Int)(w:World)(hn:n≤1048576)(hS:Ints Q .i64 w a n S) :
  Calls Tryz.prog 102 #[.slice a n c,.int .i64 b] w (TellsB (hasN n S b) w):=by
 rcases hS with rfl | ⟨sb,so,rfl,hq,hS⟩
 ·exact callsIn_wide.1 (holds_in a 0 c S b 0 0 w hn (fun h=>absurd h (by omega)) (fun i h=>absurd h (by omega)))
 ·exact callsIn_wide.1 (holds_in _ n c S b sb so w hn (fun _=>rfl) hS)
end
section
open Go.RowKit Go.Shelf
attribute [local go_sem] Oper.semAt_some
def sumZ(f:Nat→Int):Nat→Int
 |0=>0
 |n+1=>sumZ f n+f n
theorem sumZ_add(f g:Nat→Int)(n:Nat):sumZ (fun j=>f j+g j) n=sumZ f n+sumZ g n:=by
 induction n with
 |zero=>rfl
 |succ n ih=>rw[sumZ,sumZ,sumZ,ih];omega
theorem sumZ_zero(n:Nat):sumZ (fun _=>0) n=0:=by
 induction n with
 |zero=>rfl
 |succ n ih=>rw[sumZ,ih];rfl
theorem sumZ_at(c:Int)(k n:Nat):sumZ (fun j=>if j=k then c else 0) n=if k<n then c else 0:=by
 induction n with
 |zero=>simp[sumZ]
 |succ n ih =>
  rw[sumZ,ih];by_cases h:k<n
  ·have h2:k<n+1:=by omega
   have h3:¬n=k:=by omega
   simp[h,h2,h3]
  ·by_cases e:n=k
   ·subst e;simp
   ·have h2:¬k<n+1:=by omega
    simp[h,h2,e]
def plo(S:Nat→Int)(p:Nat):Int:=max (S (2*p)) 0
def phi(S:Nat→Int)(p:Nat):Int:=min (S (2*p+1)) 255
def dlt(S:Nat→Int)(p i:Nat):Int :=
 if plo S p≤phi S p then (if i=(plo S p).toNat then 1 else 0)+(if i=(phi S p).toNat+1 then -1 else 0) else 0
def chg(S:Nat→Int):Nat→Nat→Int
 |0,_=>0
 |p+1,i=>chg S p i+dlt S p i
theorem chg_bound(S:Nat→Int):∀(p i:Nat),-(p:Int)≤chg S p i∧chg S p i≤p
 |0,i=>⟨Int.le_refl _,Int.le_refl _⟩
 |p+1,i=>by
  have:=chg_bound S p i;rw[chg];unfold dlt;split
  ·split<;>split<;>omega
  ·omega
theorem sum_dlt(S:Nat→Int)(p b:Nat)(hb:b<256):sumZ (dlt S p) (b+1)=if S (2*p)≤b∧(b:Int)≤S (2*p+1) then 1 else 0:=by
 by_cases h:plo S p≤phi S p
 ·have e:dlt S p=fun i=>(if i=(plo S p).toNat then 1 else 0)+(if i=(phi S p).toNat+1 then -1 else 0):=by funext i;unfold dlt;rw[if_pos h]
  rw[e,sumZ_add,sumZ_at,sumZ_at];have h1:0≤plo S p:=Int.le_max_right _ _;have h2:phi S p≤255:=Int.min_le_right _ _;unfold plo phi at *;by_cases q1:S (2*p)≤b
  ·by_cases q2:(b:Int)≤S (2*p+1)
   ·rw[if_pos (by omega),if_neg (by omega),if_pos ⟨q1,q2⟩];rfl
   ·rw[if_pos (by omega),if_pos (by omega),if_neg (fun q=>q2 q.2)];rfl
  ·rw[if_neg (by omega),if_neg (by omega),if_neg (fun q=>q1 q.1)];rfl
 ·have e:dlt S p=fun i=>0:=by funext i;unfold dlt;rw[if_neg h]
  rw[e,sumZ_zero];unfold plo phi at h;rw[if_neg];rintro⟨q1,q2⟩;omega
theorem sum_chg(S:Nat→Int)(b:Nat)(hb:b<256):∀p:Nat,0≤sumZ (chg S p) (b+1)∧(0<sumZ (chg S p) (b+1)↔hasP S (b:Int) p=true)
 |0=>by
  have e:chg S 0=fun _=>0:=rfl
  rw[e,sumZ_zero];simp[hasP]
 |p+1=>by
  obtain⟨h1,h2⟩:=sum_chg S b hb p;have e:chg S (p+1)=fun i=>chg S p i+dlt S p i:=rfl
  rw[e,sumZ_add,sum_dlt S p b hb,hasP];by_cases q:S (2*p)≤b∧(b:Int)≤S (2*p+1)
  ·rw[if_pos q]
   refine⟨by omega,fun _=>?_,fun _=>by omega⟩
   simp[q.1,q.2]
  ·rw[if_neg q]
   refine⟨by omega,?_⟩
   rw[Int.add_zero,h2];have:(decide (S (2*p)≤(b:Int))&&decide ((b:Int)≤S (2*p+1)))=false:=by
    simp only[Bool.and_eq_false_iff,decide_eq_false_iff_not];by_cases r:S (2*p)≤(b:Int)
    ·exact .inr (fun r2=>q ⟨r,r2⟩)
    ·exact .inl r
   rw[this,Bool.or_false]
theorem sum_bound(S:Nat→Int)(p:Nat):∀n:Nat,-((n*p:Nat):Int)≤sumZ (chg S p) n∧sumZ (chg S p) n≤((n*p:Nat):Int)
 |0=>by simp[sumZ]
 |n+1=>by
  have h1:=sum_bound S p n;have h2:=chg_bound S p n;rw[sumZ,Nat.add_mul,Nat.one_mul,Int.natCast_add];omega
theorem info217:(Tryz.prog.info? 166).map (fun i=>(i.zero,i.size))=some (some (.agg (madeCells #[.int .i64 0] 257)),257):=by kernel_rfl
structure AdOwn(w:World)(f:Nat→Int)(x:World):Prop where
 row:x.rowIs w.heap.size 166 257 (fun i=>.int .i64 (f i))
 bel:Below w.heap.size w x
 size:w.heap.size+2≤x.heap.size
theorem AdOwn.below{w:World}{f:Nat→Int}{x z:World}(h:AdOwn w f x)(hb:Below (w.heap.size+2) x z):AdOwn w f z :=
 ⟨h.row.of_block (hb.block _ (by omega)),h.bel.trans (hb.mono (by omega)),Nat.le_trans h.size hb.size⟩
def adI(w:World)(n:Nat)(S:Nat→Int)(p:Nat)(x:World):Prop:=AdOwn w (chg S p) x∧2*p≤n
structure AddIs(mb o:Nat)(N:Nat→Bool)(w:World)(e:Ending)(w':World):Prop where
 val:∃v,e=.returned v
 mem:∀i,i<256→w'.cell? ⟨mb,o+i,none⟩=some (.bool (N i))
 rest:∀j,(j<o∨o+256≤j)→w'.cell? ⟨mb,j,none⟩=w.cell? ⟨mb,j,none⟩
 frz:∀j,w'.frozen? ⟨mb,j,none⟩=w.frozen? ⟨mb,j,none⟩
 kept:Kept (fun x=>x=mb) w w'
structure AdR(w:World)(mb o k:Nat)(S:Nat→Int)(p:Nat)(M:Nat→Bool)(d:Nat)(x:World):Prop where
 row:x.rowIs w.heap.size 166 257 (fun i=>.int .i64 (chg S p i))
 mem:∀i,i<256→x.cell? ⟨mb,o+i,none⟩=some (.bool (if i<k then hasP S (i:Int) p||M i else M i))
 rest:∀j,(j<o∨o+256≤j)→x.cell? ⟨mb,j,none⟩=w.cell? ⟨mb,j,none⟩
 frz:∀j,x.frozen? ⟨mb,j,none⟩=w.frozen? ⟨mb,j,none⟩
 kept:Kept (fun x=>x=mb) w x
 size:w.heap.size+2≤x.heap.size
 dd:x.heap[d]? = some (.deferred (some []))
def adL(w:World)(mb o:Nat)(S:Nat→Int)(p:Nat)(M:Nat→Bool)(d:Nat)(ov iv:Value)(x:World):Prop :=
 ∃k:Nat,k≤256∧iv=.int .i64 (k:Int)∧ov=.int .i64 (sumZ (chg S p) k)∧AdR w mb o k S p M d x
theorem AdR.yes{w:World}{mb o k:Nat}{S:Nat→Int}{p:Nat}{M:Nat→Bool}{d:Nat}{x:World}(h:AdR w mb o k S p M d x)(hk:k<256)(hmb:mb<w.heap.size)(hd:w.heap.size+2≤d)(hh:hasP S (k:Int) p=true):AdR w mb o (k+1) S p M d (x.setCell ⟨mb,o+k,none⟩ (.bool true)):=by
 refine⟨h.row.of_block (Below.heap_setCell _ _ _ _ (by show w.heap.size≠mb;omega)),fun i hi=>?_,fun j hj=>?_,fun j=>(World.frozen?_setCell _ _ _ _).trans (h.frz j),⟨h.kept.os,h.kept.tape,h.kept.output,by rw[size_set];exact h.kept.size,fun b hb hn=>(Below.heap_setCell _ _ _ _ hn).trans (h.kept.block b hb hn)⟩,by rw[size_set];exact h.size,(Below.heap_setCell _ _ _ _ (by show d≠mb;omega)).trans h.dd⟩
 ·by_cases e:i=k
  ·subst e
   rw[cell_set_same (h.mem i hi),if_pos (by omega),hh];rfl
  ·rw[cell_set_other (by omega),h.mem i hi]
   by_cases q:i<k
   ·rw[if_pos q,if_pos (by omega)]
   ·rw[if_neg q,if_neg (by omega)]
 ·rw[cell_set_other (by omega)];exact h.rest j hj
theorem AdR.no{w:World}{mb o k:Nat}{S:Nat→Int}{p:Nat}{M:Nat→Bool}{d:Nat}{x:World}(h:AdR w mb o k S p M d x)(hk:k<256)(hh:hasP S (k:Int) p=false):AdR w mb o (k+1) S p M d x:=by
 refine⟨h.row,fun i hi=>?_,h.rest,h.frz,h.kept,h.size,h.dd⟩
 rw[h.mem i hi];by_cases e:i=k
 ·subst e
  rw[if_neg (by omega),if_pos (by omega),hh,Bool.false_or]
 ·by_cases q:i<k
  ·rw[if_pos q,if_pos (by omega)]
  ·rw[if_neg q,if_neg (by omega)]
set_option maxRecDepth 100000 in
set_option maxHeartbeats 8000000 in
theorem addBytes_in(mb o:Nat)(M:Nat→Bool)(a:Option Addr)(n c:Nat)(S:Nat→Int)(sb so:Nat)(w:World)(hn:n≤1048576)(ha:0<n→a=some ⟨sb,so,none⟩)(hS:∀i,i<n→w.cell? ⟨sb,so+i,none⟩=some (.int .i64 (S i)))
  (hM:∀i,i<256→w.cell? ⟨mb,o+i,none⟩=some (.bool (M i))) (hF:∀j,w.frozen? ⟨mb,j,none⟩=false) :
  CallsIn Fence.wide 0 Tryz.prog 113 #[.pointer (some ⟨mb,o,none⟩),.slice a n c] w (AddIs mb o (fun i=>hasN n S (i:Int)||M i) w):=by
 have hdep:Fence.wide.depth=none:=rfl;have HS:Hid (∀i,i<n→w.cell? ⟨sb,so+i,none⟩=some (.int .i64 (S i))):=hS;have HM:Hid (∀i,i<256→w.cell? ⟨mb,o+i,none⟩=some (.bool (M i))):=hM;have HF:Hid (∀j,w.frozen? ⟨mb,j,none⟩=false):=hF;have hll:0<n→sb<w.heap.size:=fun h=>lt_of_cell (hS 0 h)
 have hmb:mb<w.heap.size:=lt_of_cell (hM 0 (by omega))
 have hz:=(zero_of_info (P:=Tryz.prog) info217).1;clear hS hM hF;refine callsIn_of_wp_marks Tryz.func113 rfl trivial ?_ rfl;simp only[Tryz.ntmps113,List.size_toArray,List.length_cons,List.length_nil,Nat.reduceAdd,Nat.reduceSub,Array.replicate_succ,Array.replicate_zero,List.push_toArray,List.append_toArray,List.nil_append,List.cons_append]
 gi_wp2_with (refine⟨trivial,?_⟩;gi_at_call 112;refine (pairs_in _ _ _ _).mono ?_;rintro e w' ⟨rfl,rfl⟩)
 obtain⟨Wl,hWl⟩:∃Wl,(w.alloc (Obj.cells (madeCells #[Value.int IntKind.i64 0] 257) 166)).alloc (Obj.cells #[Value.slice a n c] 33)=Wl:=⟨_,rfl⟩;have sWl:Wl.heap.size=w.heap.size+2:=by rw[←hWl];simp
 have bWl:Below w.heap.size w Wl:=by rw[←hWl];exact bel2 w _ _
 have hm:=World.rowIs_made w (.int .i64 0) 257 166;have hx:=cellNew (w.alloc (Obj.cells (madeCells #[Value.int IntKind.i64 0] 257) 166)) (.slice a n c) 33;simp only[World.size_alloc]at hx;rw[hWl]at hx;have oWl:AdOwn w (chg S 0) Wl:=⟨by rw[←hWl];exact (hm.alloc _).congr (fun i hi=>rfl),bWl,by omega⟩
 have sW:∀i,i<n→Wl.cell? ⟨sb,so+i,none⟩=some (.int .i64 (S i)):=fun i hi=>cell_on (HS.out i hi) bWl
 rw[hWl];clear hWl hm hz;refine range_law (gf:=115) (lb:=#[.pointer (some ⟨w.heap.size+1,0,none⟩)]) rfl (enters_of Tryz.func115 (by kernel_rfl) rfl)
  (pairs_gives (w.heap.size+1) a n c S sb so Wl hn hx ha sW) (fun _=>rfl) ?hD (fun k=>k=w.heap.size) ?hCD ?hCw
  (adI w n S) (fun _ _ _=>False) ?hI ?hIx ?h0 ?round ?done ?stop
 case hD =>
  rintro k (rfl | ⟨rfl,hm0⟩)
  ·omega
  ·have:=hll hm0;omega
 case hCD =>
  rintro k (rfl | ⟨rfl,hm0⟩) hc
  ·omega
  ·have:=hll hm0;omega
 case hCw =>
  rintro k hk hc;omega
 case hI =>
  rintro s A E ⟨ho,hp⟩ hbel;exact⟨ho.below (hbel.mono (by omega)),hp⟩
 case hIx =>
  rintro cd s A E h hbel;exact h
 case h0=>exact⟨oWl,by omega⟩
 case round =>
  intro l' p x hl1 hl2 hIs hlt;unfold prEnc
  gi_wp2
  refine⟨Keep.refl _ _,hIs,?_⟩;clear hIs;rintro x2 hk2 hs2 ⟨ho,hc1⟩;have hlt0:2*p+1<n:=hlt;have HO:Hid (AdOwn w (chg S p) x2):=ho;have hb:=chg_bound S p;have hp':p≤1048576:=by omega
  have hrow:=ho.row;obtain⟨u,hu⟩:∃u,S (2*p)=u:=⟨_,rfl⟩;obtain⟨v,hv⟩:∃v,S (2*p+1)=v:=⟨_,rfl⟩;have HLO:Hid (plo S p=max u 0):=by show _=_;rw[←hu];rfl
  have HHI:Hid (phi S p=min v 255):=by show _=_;rw[←hv];rfl
  rw[hu,hv];clear hu hv ho;have key:∀(l h:Nat),plo S p=l→phi S p=h→l≤h→h≤255 →
    ∃c1 c2:Int,x2.cell? ⟨w.heap.size,l,none⟩=some (.int .i64 c1)∧x2.cell? ⟨w.heap.size,h+1,none⟩=some (.int .i64 c2)∧-1048576≤c1∧c1≤1048576∧-1048576≤c2∧c2≤1048576 ∧
     x2.frozen? ⟨w.heap.size,l,none⟩=false∧x2.frozen? ⟨w.heap.size,h+1,none⟩=false ∧
     AdOwn w (chg S (p+1)) ((x2.setCell ⟨w.heap.size,l,none⟩ (.int .i64 (c1+1))).setCell ⟨w.heap.size,h+1,none⟩ (.int .i64 (c2-1))):=fun l h e1 e2 hle h5=>by
   refine⟨chg S p l,chg S p (h+1),hrow.cell (by omega),hrow.cell (by omega),by have:=hb l;omega,by have:=hb l;omega,by have:=hb (h+1);omega,by have:=hb (h+1);omega,hrow.frozen _,hrow.frozen _,?_⟩
   have hd:∀i,chg S (p+1) i=chg S p i+((if i=l then 1 else 0)+(if i=h+1 then -1 else 0)):=fun i=>by
    show chg S p i+dlt S p i=_;unfold dlt;rw[if_pos (by rw[e1,e2];omega),e1,e2]
    rfl
   refine⟨((hrow.set l _).set (h+1) _).congr (fun i hi=>?_),(HO.out.bel.setCell (p:=⟨w.heap.size,l,none⟩) (Nat.le_refl _) _).setCell (p:=⟨w.heap.size,h+1,none⟩) (Nat.le_refl _) _,by rw[size_set,size_set];exact HO.out.size⟩
   rw[hd i];by_cases q1:i=h+1
   ·have q2:¬i=l:=by omega
    subst q1;simp[q2];omega
   ·by_cases q2:i=l
    ·subst q2;simp[q1]
    ·simp[q1,q2]
  have none_:¬plo S p≤phi S p→AdOwn w (chg S (p+1)) x2:=fun hle=>by
   have e:chg S (p+1)=chg S p:=by
    funext i
    show chg S p i+dlt S p i=_;unfold dlt;rw[if_neg hle,Int.add_zero]
   rw[e];exact HO.out
  have KEY:Hid _:=key;have NONE:Hid (¬plo S p≤phi S p→AdOwn w (chg S (p+1)) x2):=none_;have lx:w.heap.size<x2.heap.size:=by have:=HO.out.size;omega
  clear key none_ hrow hb hlt hk2 hs2;have HKP:Hid (∀(l h:Nat) (v1 v2:Value),Keep (fun k=>k=w.heap.size) x2 ((x2.setCell ⟨w.heap.size,l,none⟩ v1).setCell ⟨w.heap.size,h,none⟩ v2)):=fun l h v1 v2=>(Keep.setCell (C:=fun k=>k=w.heap.size) _ ⟨w.heap.size,l,none⟩ _ rfl).trans (Keep.setCell (C:=fun k=>k=w.heap.size) _ ⟨w.heap.size,h,none⟩ _ rfl)
  by_cases q1:u<0
  ·by_cases q2:255<v
   ·skip
    obtain⟨c1,c2,k1,k2,r1,r2,r3,r4,g1,g2,hA⟩:=KEY.out 0 255 (by rw[HLO.out];omega) (by rw[HHI.out];omega) (by omega) (by omega)
    have HA:Hid (AdOwn w (chg S (p+1)) ((x2.setCell ⟨w.heap.size,0,none⟩ (.int .i64 (c1+1))).setCell ⟨w.heap.size,255+1,none⟩ (.int .i64 (c2-1)))):=hA;clear hA
    gi_wp2
    exact⟨HKP.out _ _ _ _,HA.out,by omega⟩
   ·by_cases q3:0≤v
    ·obtain⟨h,rfl⟩:=Int.eq_ofNat_of_zero_le q3
     have q4:(h:Int)+1<257:=by omega
     have q5:((h:Int)+1).toNat=h+1:=by omega
     obtain⟨c1,c2,k1,k2,r1,r2,r3,r4,g1,g2,hA⟩:=KEY.out 0 h (by rw[HLO.out];omega) (by rw[HHI.out];omega) (by omega) (by omega)
     have HA:Hid (AdOwn w (chg S (p+1)) ((x2.setCell ⟨w.heap.size,0,none⟩ (.int .i64 (c1+1))).setCell ⟨w.heap.size,h+1,none⟩ (.int .i64 (c2-1)))):=hA;clear hA
     gi_wp2
     exact⟨HKP.out _ _ _ _,HA.out,by omega⟩
    ·skip
     have HA:=NONE.out (by rw[HLO.out,HHI.out];omega)
     gi_wp2
     exact⟨Keep.refl _ _,HA,by omega⟩
  ·obtain⟨l,rfl⟩:=Int.eq_ofNat_of_zero_le (show 0≤u by omega)
   by_cases q2:255<v
   ·by_cases q3:l≤255
    ·have q4:(l:Int)≤255:=by omega
     have q5:(l:Int)<257:=by omega
     obtain⟨c1,c2,k1,k2,r1,r2,r3,r4,g1,g2,hA⟩:=KEY.out l 255 (by rw[HLO.out];omega) (by rw[HHI.out];omega) (by omega) (by omega)
     have HA:Hid (AdOwn w (chg S (p+1)) ((x2.setCell ⟨w.heap.size,l,none⟩ (.int .i64 (c1+1))).setCell ⟨w.heap.size,255+1,none⟩ (.int .i64 (c2-1)))):=hA;clear hA
     gi_wp2
     exact⟨HKP.out _ _ _ _,HA.out,by omega⟩
    ·have q4:¬(l:Int)≤255:=by omega
     have HA:=NONE.out (by rw[HLO.out,HHI.out];omega)
     gi_wp2
     exact⟨Keep.refl _ _,HA,by omega⟩
   ·by_cases q3:(l:Int)≤v
    ·obtain⟨h,rfl⟩:=Int.eq_ofNat_of_zero_le (show 0≤v by omega)
     have q4:(h:Int)+1<257:=by omega
     have q5:((h:Int)+1).toNat=h+1:=by omega
     have q6:(l:Int)<257:=by omega
     have ne:l≠h+1:=by omega
     obtain⟨c1,c2,k1,k2,r1,r2,r3,r4,g1,g2,hA⟩:=KEY.out l h (by rw[HLO.out];omega) (by rw[HHI.out];omega) (by omega) (by omega)
     have HA:Hid (AdOwn w (chg S (p+1)) ((x2.setCell ⟨w.heap.size,l,none⟩ (.int .i64 (c1+1))).setCell ⟨w.heap.size,h+1,none⟩ (.int .i64 (c2-1)))):=hA;clear hA
     gi_wp2
     exact⟨HKP.out _ _ _ _,HA.out,by omega⟩
    ·skip
     have HA:=NONE.out (by rw[HLO.out,HHI.out];omega)
     gi_wp2
     exact⟨Keep.refl _ _,HA,by omega⟩
 case done =>
  rintro d p x hd hnm ⟨ho,hc1⟩ hK;have hnm':¬2*p+1<n:=hnm;have hdx:d<x.heap.size:=(Array.getElem?_eq_some_iff.1 hK).1;have HO:Hid (AdOwn w (chg S p) x):=ho;have hp':p≤1048576:=by omega
  clear ho
  gi_wp2
  gi_loopw [7,31] (fun ov iv wr=>adL w mb o S p M d ov iv wr) (fun ov iv _=>256-(intOf iv).toNat)
  case atStart=>exact⟨0,by omega,rfl,rfl,⟨HO.out.row,fun i hi=>by rw[if_neg (by omega)];exact cell_on (HM.out i hi) HO.out.bel,fun j hj=>HO.out.bel.cell (p:=⟨mb,j,none⟩) hmb,fun j=>HO.out.bel.frozen (p:=⟨mb,j,none⟩) hmb,Kept.of HO.out.bel,HO.out.size,hK⟩⟩
  case round =>
   obtain⟨k,hk,rfl,rfl,hR⟩:=hrel;have HR:Hid (AdR w mb o k S p M d wr):=hR;by_cases hlt:k<256
   ·have c0:=hR.row.cell (i:=k) (by omega)
    have lx:w.heap.size<wr.heap.size:=lt_of_cell c0;have c1:=hR.mem k hlt;have f1:=(hR.frz (o+k)).trans (HF.out _);have b1:=chg_bound S p k;have b2:=sum_bound S p k;have b4:((k*p:Nat):Int)≤268435456:=by
     have:k*p≤256*1048576:=Nat.mul_le_mul (by omega) hp'
     omega
    have hsum:=sum_chg S k hlt p;have lm:mb<wr.heap.size:=lt_of_cell c1;have hlt':(k:Int)<256:=by omega
    have hlt2:(k:Int)<257:=by omega
    obtain⟨u,hu⟩:∃u,sumZ (chg S p) k=u:=⟨_,rfl⟩;obtain⟨v,hv⟩:∃v,chg S p k=v:=⟨_,rfl⟩;have HE:Hid (sumZ (chg S p) (k+1)=u+v):=by show sumZ (chg S p) k+chg S p k=_;rw[hu,hv]
    rw[HE.out]at hsum;rw[hu]at b2;rw[hv]at b1 c0;rw[hu];have v1 : -1048576≤v:=by omega
    have v2:v≤1048576:=by omega
    have u1 : -268435456≤u:=by omega
    have u2:u≤268435456:=by omega
    have HSU:Hid (0<u+v↔hasP S (k:Int) p=true):=hsum.2;clear hu hv b1 b2 b4 hsum hR;by_cases hpos:0<u+v
    ·have HN:=HR.out.yes hlt hmb (by omega) (HSU.out.1 hpos)
     have HNN:Hid (AdR w mb o (k+1) S p M d (wr.setCell ⟨mb,o+k,none⟩ (.bool true))):=HN;clear HN
     gi_wp2
     go_roundw
     case rel=>exact⟨k+1,by omega,by go_num,by rw[HE.out],HNN.out⟩
     case measure=>simp[intOf];omega
    ·have HN:=HR.out.no hlt (by cases q:hasP S (k:Int) p with | false=>rfl | true=>exact absurd (HSU.out.2 q) hpos)
     have HNN:Hid (AdR w mb o (k+1) S p M d wr):=HN;clear HN
     gi_wp2
     go_roundw
     case rel=>exact⟨k+1,by omega,by go_num,by rw[HE.out],HNN.out⟩
     case measure=>simp[intOf];omega
   ·obtain rfl:k=256:=by omega
    have hKr:=hR.dd;clear hR
    gi_wp2
    refine⟨by simp,.inl ⟨_,_,rfl,run_takeDeferred hKr,?_⟩⟩
    have hbp:=belowPut (B:=w.heap.size+2) wr (.deferred none) (d:=d) (by omega) HR.out.size
    have hq:∀i:Nat,hasN n S (i:Int)=hasP S (i:Int) p:=fun i=>by
     unfold hasN;rw[show n / 2=p by omega]
    refine⟨_,results_none rfl _ _ _,⟨_,rfl⟩,fun i hi=>?_,fun j hj=>(hbp.cell (p:=⟨mb,j,none⟩) (by show mb<_;omega)).trans (HR.out.rest j hj),fun j=>(hbp.frozen (p:=⟨mb,j,none⟩) (by show mb<_;omega)).trans (HR.out.frz j),?_⟩
    ·rw[hbp.cell (p:=⟨mb,o+i,none⟩) (by show mb<_;omega),HR.out.mem i hi,if_pos hi,hq i]
    ·have hkp:=HR.out.kept
     exact⟨hbp.os.trans hkp.os,hbp.tape.trans hkp.tape,hbp.output.trans hkp.output,Nat.le_trans hkp.size hbp.size,fun x hx hn=>(hbp.block x (by omega)).trans (hkp.block x hx hn)⟩
 case stop =>
  rintro d cd p x hd hsm h hK;exact h.elim
theorem addBytes_any(Q:Nat→Prop)(mb o:Nat)(M:Nat→Bool)(a:Option Addr)(n c:Nat)(S:Nat→Int)(w:World)(hn:n≤1048576)(hS:Ints Q .i64 w a n S)(hM:∀i,i<256→w.cell? ⟨mb,o+i,none⟩=some (.bool (M i)))(hF:∀j,w.frozen? ⟨mb,j,none⟩=false) :
  Calls Tryz.prog 113 #[.pointer (some ⟨mb,o,none⟩),.slice a n c] w (AddIs mb o (fun i=>hasN n S (i:Int)||M i) w):=by
 rcases hS with rfl | ⟨sb,so,rfl,hq,hS⟩
 ·exact callsIn_wide.1 (addBytes_in mb o M a 0 c S 0 0 w hn (fun h=>absurd h (by omega)) (fun i h=>absurd h (by omega)) hM hF)
 ·exact callsIn_wide.1 (addBytes_in mb o M _ n c S sb so w hn (fun _=>rfl) hS hM hF)
end
end Go.Proofs.YtcbnnfnlilbjeaaGreat
