import Derived.Test.YtcbnnfnlilbjeaaGreatT32
import Derived.Test.YtcbnnfnlilbjeaaGreatT27
import Derived.BigQuiet
set_option linter.unusedVariables false
set_option linter.unusedSimpArgs false
namespace Go.Proofs.YtcbnnfnlilbjeaaGreat
section
open Go.RowKit
open M (OpD NodeD Gr InsD)
def fnV(f:FuncId):Value:=.func (.func f) #[] #[]
def logV(k:Nat):Value:=.func (.func 110) #[] #[.pointer (some ⟨k,0,none⟩)]
def actA(k0 k1 k2:Nat):Array Value:=#[fnV 81,fnV 82,fnV 83,fnV 84,fnV 85,fnV 86,fnV 87,fnV 88,fnV 89,logV k0,logV k1,logV k2,fnV 91]
set_option maxHeartbeats 1000000 in
theorem logging_fn(k:Int)(w:World):Calls Tryz.prog 90 #[.int .i64 k] w (fun e w'=>e=.returned (.func (.func 110) #[] #[.pointer (some ⟨w.heap.size,0,none⟩)])∧w'=w.alloc (.cells #[.int .i64 k] 3)):=by
 go_enter Tryz.func90,Tryz.ntmps90;go_wp2;go_ret;exact⟨rfl,rfl⟩
theorem store_func(a:Addr)(fn:Fn)(f c:Array Value)(w:World)(h1:(w.cell? a).isSome=true)(h2:w.frozen? a=false):(store a (.func fn f c)).run Tryz.prog w=.ok () (w.setCell a (.func fn f c)):=by
 obtain⟨u,hu⟩:=Option.isSome_iff_exists.1 h1;rw[run_store _ _ _ _ _ rfl,hu];simp[h2]
attribute [local go_sem] store_func
def set13(w:World)(b:Nat)(v0 v1 v2 v3 v4 v5 v6 v7 v8 v9 v10 v11 v12:Value):World:=(((((((((((((w.setCell ⟨b,0,none⟩ v0).setCell ⟨b,1,none⟩ v1).setCell ⟨b,2,none⟩ v2).setCell ⟨b,3,none⟩ v3).setCell ⟨b,4,none⟩ v4).setCell ⟨b,5,none⟩ v5).setCell ⟨b,6,none⟩ v6).setCell ⟨b,7,none⟩ v7).setCell ⟨b,8,none⟩ v8).setCell ⟨b,9,none⟩ v9).setCell ⟨b,10,none⟩ v10).setCell ⟨b,11,none⟩ v11).setCell ⟨b,12,none⟩ v12)
theorem set13_only(w:World)(b:Nat)(v0 v1 v2 v3 v4 v5 v6 v7 v8 v9 v10 v11 v12:Value):Only (fun x=>x=b) w (set13 w b v0 v1 v2 v3 v4 v5 v6 v7 v8 v9 v10 v11 v12):=by
 unfold set13;have h:=fun (o:Nat) (v:Value) {W:World} (k:Only (fun x=>x=b) w W)=>Only.set (P:=fun x=>x=b) k b o v rfl
 exact (h 12 v12 (h 11 v11 (h 10 v10 (h 9 v9 (h 8 v8 (h 7 v7 (h 6 v6 (h 5 v5 (h 4 v4 (h 3 v3 (h 2 v2 (h 1 v1 (h 0 v0 (Only.refl _ _))))))))))))))
structure ActsIs(w:World)(e:Ending)(w':World):Prop where
 ex:∃k0 k1 k2,e=.returned (.agg (actA k0 k1 k2))∧w'.cell? ⟨k0,0,none⟩=some (.int .i64 0)∧w'.cell? ⟨k1,0,none⟩=some (.int .i64 1)∧w'.cell? ⟨k2,0,none⟩=some (.int .i64 2)
 bel:Below w.heap.size w w'
set_option maxRecDepth 100000 in
set_option maxHeartbeats 4000000 in
theorem actions_any(w:World):Calls Tryz.prog 52 #[] w (ActsIs w):=by
 go_enter Tryz.func52,Tryz.ntmps52;go_wp2_with fail;refine (logging_fn _ _).mono ?_;rintro e w' ⟨rfl,rfl⟩;go_wp2_with fail;refine (logging_fn _ _).mono ?_;rintro e w' ⟨rfl,rfl⟩;go_wp2_with fail;refine (logging_fn _ _).mono ?_;rintro e w' ⟨rfl,rfl⟩;have hY:((((w.alloc (.cells #[.nilFunc,.nilFunc,.nilFunc,.nilFunc,.nilFunc,.nilFunc,.nilFunc,.nilFunc,.nilFunc,.nilFunc,.nilFunc,.nilFunc,.nilFunc] 98)).alloc (.cells #[.int .i64 0] 3)).alloc (.cells #[.int .i64 1] 3)).alloc (.cells #[.int .i64 2] 3)).heap[w.heap.size]? = some (.cells #[.nilFunc,.nilFunc,.nilFunc,.nilFunc,.nilFunc,.nilFunc,.nilFunc,.nilFunc,.nilFunc,.nilFunc,.nilFunc,.nilFunc,.nilFunc] 98):=blk_old (blk_old (blk_old (blk_new w _ _ rfl) _) _) _;have k0:((((w.alloc (.cells #[.nilFunc,.nilFunc,.nilFunc,.nilFunc,.nilFunc,.nilFunc,.nilFunc,.nilFunc,.nilFunc,.nilFunc,.nilFunc,.nilFunc,.nilFunc] 98)).alloc (.cells #[.int .i64 0] 3)).alloc (.cells #[.int .i64 1] 3)).alloc (.cells #[.int .i64 2] 3)).cell? ⟨w.heap.size+1,0,none⟩=some (.int .i64 0):=cellOn _ (cellOn _ (cN (w.heap.size+1) (by simp) rfl))
 have k1:((((w.alloc (.cells #[.nilFunc,.nilFunc,.nilFunc,.nilFunc,.nilFunc,.nilFunc,.nilFunc,.nilFunc,.nilFunc,.nilFunc,.nilFunc,.nilFunc,.nilFunc] 98)).alloc (.cells #[.int .i64 0] 3)).alloc (.cells #[.int .i64 1] 3)).alloc (.cells #[.int .i64 2] 3)).cell? ⟨w.heap.size+1+1,0,none⟩=some (.int .i64 1):=cellOn _ (cN (w.heap.size+1+1) (by simp) rfl)
 have k2:((((w.alloc (.cells #[.nilFunc,.nilFunc,.nilFunc,.nilFunc,.nilFunc,.nilFunc,.nilFunc,.nilFunc,.nilFunc,.nilFunc,.nilFunc,.nilFunc,.nilFunc] 98)).alloc (.cells #[.int .i64 0] 3)).alloc (.cells #[.int .i64 1] 3)).alloc (.cells #[.int .i64 2] 3)).cell? ⟨w.heap.size+1+1+1,0,none⟩=some (.int .i64 2):=cN (w.heap.size+1+1+1) (by simp) rfl
 have HBY:Hid (Below w.heap.size w ((((w.alloc (.cells #[.nilFunc,.nilFunc,.nilFunc,.nilFunc,.nilFunc,.nilFunc,.nilFunc,.nilFunc,.nilFunc,.nilFunc,.nilFunc,.nilFunc,.nilFunc] 98)).alloc (.cells #[.int .i64 0] 3)).alloc (.cells #[.int .i64 1] 3)).alloc (.cells #[.int .i64 2] 3))):=bel_tr (bel3 w _ _ _) (bel1 _ _);simp only[World.size_alloc];generalize (((w.alloc (.cells #[.nilFunc,.nilFunc,.nilFunc,.nilFunc,.nilFunc,.nilFunc,.nilFunc,.nilFunc,.nilFunc,.nilFunc,.nilFunc,.nilFunc,.nilFunc] 98)).alloc (.cells #[.int .i64 0] 3)).alloc (.cells #[.int .i64 1] 3)).alloc (.cells #[.int .i64 2] 3)=Y at *;have x0:=blk_cell (j:=0) hY rfl;have g0:=blk_frz (j:=0) hY;have x1:=blk_cell (j:=1) hY rfl;have g1:=blk_frz (j:=1) hY;have x2:=blk_cell (j:=2) hY rfl;have g2:=blk_frz (j:=2) hY;have x3:=blk_cell (j:=3) hY rfl;have g3:=blk_frz (j:=3) hY;have x4:=blk_cell (j:=4) hY rfl;have g4:=blk_frz (j:=4) hY;have x5:=blk_cell (j:=5) hY rfl;have g5:=blk_frz (j:=5) hY;have x6:=blk_cell (j:=6) hY rfl;have g6:=blk_frz (j:=6) hY;have x7:=blk_cell (j:=7) hY rfl;have g7:=blk_frz (j:=7) hY;have x8:=blk_cell (j:=8) hY rfl;have g8:=blk_frz (j:=8) hY;have x9:=blk_cell (j:=9) hY rfl;have g9:=blk_frz (j:=9) hY;have x10:=blk_cell (j:=10) hY rfl;have g10:=blk_frz (j:=10) hY;have x11:=blk_cell (j:=11) hY rfl;have g11:=blk_frz (j:=11) hY;have x12:=blk_cell (j:=12) hY rfl;have g12:=blk_frz (j:=12) hY;have ly:w.heap.size<Y.heap.size:=lt_of_cell x0;have HK:=trivial;have HFIN:Hid (∀W',Only (fun x=>x=w.heap.size) Y W'→ActsIs w (.returned (.agg (actA (w.heap.size+1) (w.heap.size+1+1) (w.heap.size+1+1+1)))) W'):=fun W' ho =>
  ⟨⟨_,_,_,rfl,(World.cell?_of_block (a:=⟨w.heap.size+1,0,none⟩) (ho.block (w.heap.size+1) (by omega))).trans k0,(World.cell?_of_block (a:=⟨w.heap.size+1+1,0,none⟩) (ho.block (w.heap.size+1+1) (by omega))).trans k1,(World.cell?_of_block (a:=⟨w.heap.size+1+1+1,0,none⟩) (ho.block (w.heap.size+1+1+1) (by omega))).trans k2⟩,
   ⟨ho.os.trans HBY.out.os,ho.tape.trans HBY.out.tape,ho.output.trans HBY.out.output,by rw[ho.size];exact HBY.out.size,fun x hx=>(ho.block x (by omega)).trans (HBY.out.block x hx)⟩⟩
 clear hY k0 k1 k2 HK;go_wp2;refine bodyPost_ret (v:=.agg (actA (w.heap.size+1) (w.heap.size+1+1) (w.heap.size+1+1+1))) ?_ rfl ?_
 ·unfold actA fnV logV
  simp[results,Tryz.f52,go_sem, *]
 ·exact HFIN.out _ (set13_only _ _ _ _ _ _ _ _ _ _ _ _ _ _ _)
set_option maxHeartbeats 1000000 in
theorem within_any(fuel most:Int)(w:World):Calls Tryz.prog 24 #[.int .i64 fuel,.int .i64 most] w (Tells (decide (0≤fuel∧fuel≤50000∧0≤most∧most≤1000)) w):=by
 by_cases h1:0≤fuel
 ·by_cases h2:fuel≤50000
  ·by_cases h3:0≤most
   ·by_cases h4:most≤1000
    ·go_enter Tryz.func24,Tryz.ntmps24
     go_wp2;go_ret;exact⟨by simp[h1,h2,h3,h4],rfl⟩
    ·go_enter Tryz.func24,Tryz.ntmps24
     go_wp2;go_ret;exact⟨by simp;omega,rfl⟩
   ·go_enter Tryz.func24,Tryz.ntmps24
    go_wp2;go_ret;exact⟨by simp;omega,rfl⟩
  ·go_enter Tryz.func24,Tryz.ntmps24
   go_wp2;go_ret;exact⟨by simp;omega,rfl⟩
 ·go_enter Tryz.func24,Tryz.ntmps24
  go_wp2;go_ret;exact⟨by simp;omega,rfl⟩
set_option maxHeartbeats 1000000 in
theorem long_any(kd arg to:Int)(sa:Option Addr)(sl sc:Nat)(w:World)(hs:sl≤1048576):Calls Tryz.prog 26 #[.agg #[.int .i64 kd,.int .i64 arg,.int .i64 to,.slice sa sl sc]] w (TellsB (decide (512<sl)) w):=by
 by_cases h:512<sl
 ·have h':(512:Int)<(sl:Int):=by omega
  go_enter Tryz.func26,Tryz.ntmps26;go_wp2;go_ret;exact⟨by simp[h],bel1 w _⟩
 ·have h':¬(512:Int)<(sl:Int):=by omega
  go_enter Tryz.func26,Tryz.ntmps26;go_wp2;go_ret;exact⟨by simp[h],bel1 w _⟩
def IdxIs(n:Nat)(R:Nat→InsD)(w:World)(e:Ending)(w':World):Prop:=(∃r:Int,e=.returned (.int .i64 r)∧(0≤r↔∃i,i<n∧512<(R i).sl)∧-1≤r∧r≤1048576)∧Below w.heap.size w w'
def idI(w:World)(n:Nat)(R:Nat→InsD)(iv:Value)(wr:World):Prop:=∃k:Nat,k≤n∧iv=.int .i64 (k:Int)∧(∀i,i<k→¬512<(R i).sl)∧Below w.heap.size w wr
set_option maxRecDepth 100000 in
set_option maxHeartbeats 4000000 in
theorem index_any(Q:Nat→Prop)(a:Option Addr)(n c:Nat)(R:Nat→InsD)(w:World)(hA:InsA Q w a n R)(hn:n≤1048576)(hs:∀i,i<n→(R i).sl≤1048576) :
  Calls Tryz.prog 51 #[.slice a n c,.func (.func 26) #[] #[]] w (IdxIs n R w):=by
 have HA:Hid (InsA Q w a n R):=hA;have HS:Hid (∀i,i<n→(R i).sl≤1048576):=hs;clear hA hs;go_enter Tryz.func51,Tryz.ntmps51;go_wp2;go_loopw [8] (fun iv wr=>idI w n R iv wr) (fun iv _=>n-(intOf iv).toNat)
 case atStart=>exact⟨0,Nat.zero_le _,rfl,fun i hi=>absurd hi (Nat.not_lt_zero _),Below.refl _ _⟩
 case round =>
  obtain⟨k,hk,rfl,hall,hb⟩:=hrel;have HALL:Hid (∀i,i<k→¬512<(R i).sl):=hall;have HB:Hid (Below w.heap.size w wr):=hb;by_cases hlt:k<n
  ·have hA:=HA.out.later hb
   rcases hA with h0 | ⟨b,off,rfl,hq,hA⟩
   ·omega
   obtain⟨c0,c1,c2,sa,sc,c3,hst⟩:=hA k hlt;have lb:=lt_of_cell c0;have hlt':(k:Int)<(n:Int):=by omega
   have hsl:=HS.out k hlt;obtain⟨sl,hsl2⟩:∃sl,(R k).sl=sl:=⟨_,rfl⟩;have HSL:Hid ((R k).sl=sl):=hsl2;rw[hsl2]at c3 hsl;clear hA hst hall hb hsl2;by_cases hbig:512<sl
   ·have hd:decide (512<sl)=true:=by simp[hbig]
    have HBIG:Hid (512<sl):=hbig;clear hbig;go_wp2_with (go_at_call 26;refine (long_any _ _ _ sa sl sc _ hsl).mono ?_;rintro e W ⟨rfl,hb2⟩;have HB2:Hid _:=hb2;clear hb2);go_ret;exact⟨⟨(k:Int),rfl,⟨fun _=>⟨k,hlt,by rw[HSL.out];exact HBIG.out⟩,fun _=>by omega⟩,by omega,by omega⟩,bel_tr HB.out HB2.out⟩
   ·have hd:decide (512<sl)=false:=by simp[hbig]
    have HBIG:Hid (¬512<sl):=hbig;clear hbig;go_wp2_with (go_at_call 26;refine (long_any _ _ _ sa sl sc _ hsl).mono ?_;rintro e W ⟨rfl,hb2⟩;have HB2:Hid _:=hb2;clear hb2);go_roundw
    case rel=>exact⟨k+1,by omega,by go_num,all_snoc HALL.out (by rw[HSL.out];exact HBIG.out),bel_tr HB.out HB2.out⟩
    case measure=>simp[intOf];omega
  ·obtain rfl:k=n:=by omega
   clear hall hb;go_wp2;go_ret;exact⟨⟨-1,rfl,⟨fun h=>by omega,fun ⟨i,hi,h⟩=>absurd h (HALL.out i hi)⟩,by omega,by omega⟩,HB.out⟩
set_option maxHeartbeats 1000000 in
theorem contains_any(Q:Nat→Prop)(a:Option Addr)(n c:Nat)(R:Nat→InsD)(w:World)(hA:InsA Q w a n R)(hn:n≤1048576)(hs:∀i,i<n→(R i).sl≤1048576) :
  Calls Tryz.prog 25 #[.slice a n c,.func (.func 26) #[] #[]] w (SaysB (∃i,i<n∧512<(R i).sl) w):=by
 have HA:Hid (InsA Q w a n R):=hA;have HS:Hid (∀i,i<n→(R i).sl≤1048576):=hs;clear hA hs;go_enter Tryz.func25,Tryz.ntmps25;go_wp2_with fail;refine (index_any Q a n c R _ HA.out hn HS.out).mono ?_;rintro e W ⟨⟨r,rfl,hr,h1,h2⟩,hb⟩;have HR:Hid (0≤r↔∃i,i<n∧512<(R i).sl):=hr;have HB:Hid (Below w.heap.size w W):=hb;clear hr hb;by_cases h0:0≤r
 ·go_wp2
  go_ret;exact⟨⟨true,rfl,iffT (HR.out.1 h0)⟩,HB.out⟩
 ·have hd:decide (0≤r)=false:=by simp;omega
  go_wp2;go_ret;exact⟨⟨false,by rw[←hd];rfl,iffF (fun q=>by have:=HR.out.2 q;omega)⟩,HB.out⟩
end
section
open Go.RowKit
open M (OpD NodeD Gr InsD)
def frC(f:FrD)(n:Bool):Value :=
 if f.kind=0 then .iface 149 (.agg #[.int .i64 f.to,.bool n,.int .i64 (f.pos:Int),.int .i64 (f.log:Int)])
 else if f.kind=1 then .iface 154 (.agg #[.int .i64 f.to,.bool n,.int .i64 (f.pos:Int),.int .i64 (f.log:Int)])
 else .iface 157 (.agg #[.int .i64 f.to,.bool n])
def cellsG:Bool→List FrD→List Value
 |_,[]=>[]
 |n,f::r=>frC f (n||f.kind==1)::cellsG (n||f.kind==1) r
theorem cellsG_len:∀(l:List FrD) (n:Bool),(cellsG n l).length=l.length
 | [],_=>rfl
 |f::r,n=>by rw[cellsG,List.length_cons,cellsG_len r,List.length_cons]
theorem cellsG_snoc(f:FrD):∀(l:List FrD) (n:Bool),cellsG n (l++[f])=cellsG n l++[frC f ((n||l.any (fun f=>f.kind==1))||f.kind==1)]
 | [],n=>by simp[cellsG]
 |g::r,n=>by
  rw[List.cons_append,cellsG,cellsG_snoc f r,cellsG,List.cons_append,List.any_cons,Bool.or_assoc n]
theorem cellsG_take:∀(l:List FrD) (n:Bool) (j:Nat),cellsG n (l.take j)=(cellsG n l).take j
 | [],n,j=>by simp[cellsG]
 |f::r,n,0=>by simp[cellsG]
 |f::r,n,j+1=>by rw[List.take_succ_cons,cellsG,cellsG_take r,cellsG,List.take_succ_cons]
theorem cellsG_get:∀(l:List FrD) (n:Bool) (i:Nat) (f:FrD),l[i]? = some f→(cellsG n l)[i]? = some (frC f (n||(l.take (i+1)).any (fun f=>f.kind==1)))
 | [],n,i,f,h=>by simp at h
 |g::r,n,0,f,h=>by simp at h;subst h;simp[cellsG]
 |g::r,n,i+1,f,h=>by
  simp at h;rw[cellsG,List.getElem?_cons_succ,cellsG_get r _ i f h,List.take_succ_cons,List.any_cons,Bool.or_assoc]
structure MacC(w:World)(b:Nat)(s:MSt)(ia:Option Addr)(il ic:Nat)(most:Int)(ka:Option Addr)(kn kc:Nat)(la:Option Addr)(ln lc:Nat):Prop where
 c0:w.cell? ⟨b,0,none⟩=some (.slice ia il ic)
 c1:w.cell? ⟨b,1,none⟩=some (.int .i64 most)
 c2:w.cell? ⟨b,2,none⟩=some (.int .i64 s.at_)
 c3:w.cell? ⟨b,3,none⟩=some (.int .i64 (s.pos:Int))
 c4:w.cell? ⟨b,4,none⟩=some (.slice ka kn kc)
 c5:w.cell? ⟨b,5,none⟩=some (.slice la ln lc)
 c6:w.cell? ⟨b,6,none⟩=some (.int .i64 (s.far:Int))
 ex:∀i,i<256→w.cell? ⟨b,7+i,none⟩=some (.bool (s.exp i))
 c8:w.cell? ⟨b,263,none⟩=some (.int .i64 (s.steps:Int))
 c9:w.cell? ⟨b,264,none⟩=some (.int .i64 (s.throws:Int))
 c10:w.cell? ⟨b,265,none⟩=some (.int .i64 s.label)
 fz:∀j,w.frozen? ⟨b,j,none⟩=false
structure MacA(K L:Nat→Prop)(w:World)(b:Nat)(s:MSt)(ia:Option Addr)(il ic:Nat)(most:Int)(ka:Option Addr)(kc:Nat)(la:Option Addr)(lc:Nat):Prop where
 c:MacC w b s ia il ic most ka s.st.length kc la s.log.length lc
 st:OwnC K w (.slice ka s.st.length kc) 1 s.st.length (cellsG false s.st)
 log:OwnC L w (.slice la s.log.length lc) 3 s.log.length (cellsE s.log)
 lt:∀x,K x∨L x→x<w.heap.size
 kl:∀x,K x→¬L x
 kb:¬K b
 lb:¬L b
theorem MacC.on{w w':World}{b:Nat}{s:MSt}{ia:Option Addr}{il ic:Nat}{most:Int}{ka:Option Addr}{kn kc:Nat}{la:Option Addr}{ln lc:Nat}(h:MacC w b s ia il ic most ka kn kc la ln lc)(k:w'.heap[b]? = w.heap[b]?):MacC w' b s ia il ic most ka kn kc la ln lc:=by
 have hc:∀o,w'.cell? ⟨b,o,none⟩=w.cell? ⟨b,o,none⟩:=fun o=>World.cell?_of_block (a:=⟨b,o,none⟩) k
 exact⟨(hc _).trans h.c0,(hc _).trans h.c1,(hc _).trans h.c2,(hc _).trans h.c3,(hc _).trans h.c4,(hc _).trans h.c5,(hc _).trans h.c6,fun i hi=>(hc _).trans (h.ex i hi),(hc _).trans h.c8,(hc _).trans h.c9,(hc _).trans h.c10,fun j=>(World.frozen?_of_block (a:=⟨b,j,none⟩) k).trans (h.fz j)⟩
theorem MacA.on{K L:Nat→Prop}{w w':World}{b:Nat}{s:MSt}{ia:Option Addr}{il ic:Nat}{most:Int}{ka:Option Addr}{kc:Nat}{la:Option Addr}{lc:Nat}(h:MacA K L w b s ia il ic most ka kc la lc)(k:∀x,K x∨L x∨x=b→w'.heap[x]? = w.heap[x]?)(hs:w.heap.size≤w'.heap.size):MacA K L w' b s ia il ic most ka kc la lc :=
 ⟨h.c.on (k b (.inr (.inr rfl))),h.st.on (fun x hx=>k x (.inl hx)),h.log.on (fun x hx=>k x (.inr (.inl hx))),fun x hx=>Nat.lt_of_lt_of_le (h.lt x hx) hs,h.kl,h.kb,h.lb⟩
theorem MacA.bl{K L:Nat→Prop}{w:World}{b:Nat}{s:MSt}{ia:Option Addr}{il ic:Nat}{most:Int}{ka:Option Addr}{kc:Nat}{la:Option Addr}{lc:Nat}(h:MacA K L w b s ia il ic most ka kc la lc):b<w.heap.size:=lt_of_cell h.c.c0
theorem MacA.later{K L:Nat→Prop}{w w':World}{b:Nat}{s:MSt}{ia:Option Addr}{il ic:Nat}{most:Int}{ka:Option Addr}{kc:Nat}{la:Option Addr}{lc:Nat}(h:MacA K L w b s ia il ic most ka kc la lc)(k:Below w.heap.size w w'):MacA K L w' b s ia il ic most ka kc la lc :=
 h.on (fun x hx=>k.block x (by rcases hx with q | q | q;exact h.lt x (.inl q);exact h.lt x (.inr q);rw[q];exact h.bl)) k.size
theorem MacC.set2{w:World}{b:Nat}{s:MSt}{ia:Option Addr}{il ic:Nat}{most:Int}{ka:Option Addr}{kn kc:Nat}{la:Option Addr}{ln lc:Nat}(h:MacC w b s ia il ic most ka kn kc la ln lc)(z:Int):MacC (w.setCell ⟨b,2,none⟩ (.int .i64 z)) b { s with at_:=z } ia il ic most ka kn kc la ln lc :=
 ⟨cell_setO (by omega) h.c0,cell_setO (by omega) h.c1,cell_set_same h.c2,cell_setO (by omega) h.c3,cell_setO (by omega) h.c4,cell_setO (by omega) h.c5,cell_setO (by omega) h.c6,fun i hi=>cell_setO (by omega) (h.ex i hi),cell_setO (by omega) h.c8,cell_setO (by omega) h.c9,cell_setO (by omega) h.c10,fun j=>(World.frozen?_setCell _ _ _ _).trans (h.fz j)⟩
theorem MacC.set3{w:World}{b:Nat}{s:MSt}{ia:Option Addr}{il ic:Nat}{most:Int}{ka:Option Addr}{kn kc:Nat}{la:Option Addr}{ln lc:Nat}(h:MacC w b s ia il ic most ka kn kc la ln lc)(z:Nat):MacC (w.setCell ⟨b,3,none⟩ (.int .i64 (z:Int))) b { s with pos:=z } ia il ic most ka kn kc la ln lc :=
 ⟨cell_setO (by omega) h.c0,cell_setO (by omega) h.c1,cell_setO (by omega) h.c2,cell_set_same h.c3,cell_setO (by omega) h.c4,cell_setO (by omega) h.c5,cell_setO (by omega) h.c6,fun i hi=>cell_setO (by omega) (h.ex i hi),cell_setO (by omega) h.c8,cell_setO (by omega) h.c9,cell_setO (by omega) h.c10,fun j=>(World.frozen?_setCell _ _ _ _).trans (h.fz j)⟩
theorem MacC.set4{w:World}{b:Nat}{s:MSt}{ia:Option Addr}{il ic:Nat}{most:Int}{ka:Option Addr}{kn kc:Nat}{la:Option Addr}{ln lc:Nat}(h:MacC w b s ia il ic most ka kn kc la ln lc)(ka':Option Addr)(kn' kc':Nat):MacC (w.setCell ⟨b,4,none⟩ (.slice ka' kn' kc')) b s ia il ic most ka' kn' kc' la ln lc :=
 ⟨cell_setO (by omega) h.c0,cell_setO (by omega) h.c1,cell_setO (by omega) h.c2,cell_setO (by omega) h.c3,cell_set_same h.c4,cell_setO (by omega) h.c5,cell_setO (by omega) h.c6,fun i hi=>cell_setO (by omega) (h.ex i hi),cell_setO (by omega) h.c8,cell_setO (by omega) h.c9,cell_setO (by omega) h.c10,fun j=>(World.frozen?_setCell _ _ _ _).trans (h.fz j)⟩
theorem MacC.set5{w:World}{b:Nat}{s:MSt}{ia:Option Addr}{il ic:Nat}{most:Int}{ka:Option Addr}{kn kc:Nat}{la:Option Addr}{ln lc:Nat}(h:MacC w b s ia il ic most ka kn kc la ln lc)(la':Option Addr)(ln' lc':Nat):MacC (w.setCell ⟨b,5,none⟩ (.slice la' ln' lc')) b s ia il ic most ka kn kc la' ln' lc' :=
 ⟨cell_setO (by omega) h.c0,cell_setO (by omega) h.c1,cell_setO (by omega) h.c2,cell_setO (by omega) h.c3,cell_setO (by omega) h.c4,cell_set_same h.c5,cell_setO (by omega) h.c6,fun i hi=>cell_setO (by omega) (h.ex i hi),cell_setO (by omega) h.c8,cell_setO (by omega) h.c9,cell_setO (by omega) h.c10,fun j=>(World.frozen?_setCell _ _ _ _).trans (h.fz j)⟩
theorem MacC.set6{w:World}{b:Nat}{s:MSt}{ia:Option Addr}{il ic:Nat}{most:Int}{ka:Option Addr}{kn kc:Nat}{la:Option Addr}{ln lc:Nat}(h:MacC w b s ia il ic most ka kn kc la ln lc)(z:Nat):MacC (w.setCell ⟨b,6,none⟩ (.int .i64 (z:Int))) b { s with far:=z } ia il ic most ka kn kc la ln lc :=
 ⟨cell_setO (by omega) h.c0,cell_setO (by omega) h.c1,cell_setO (by omega) h.c2,cell_setO (by omega) h.c3,cell_setO (by omega) h.c4,cell_setO (by omega) h.c5,cell_set_same h.c6,fun i hi=>cell_setO (by omega) (h.ex i hi),cell_setO (by omega) h.c8,cell_setO (by omega) h.c9,cell_setO (by omega) h.c10,fun j=>(World.frozen?_setCell _ _ _ _).trans (h.fz j)⟩
theorem MacC.set8{w:World}{b:Nat}{s:MSt}{ia:Option Addr}{il ic:Nat}{most:Int}{ka:Option Addr}{kn kc:Nat}{la:Option Addr}{ln lc:Nat}(h:MacC w b s ia il ic most ka kn kc la ln lc)(z:Nat):MacC (w.setCell ⟨b,263,none⟩ (.int .i64 (z:Int))) b { s with steps:=z } ia il ic most ka kn kc la ln lc :=
 ⟨cell_setO (by omega) h.c0,cell_setO (by omega) h.c1,cell_setO (by omega) h.c2,cell_setO (by omega) h.c3,cell_setO (by omega) h.c4,cell_setO (by omega) h.c5,cell_setO (by omega) h.c6,fun i hi=>cell_setO (by omega) (h.ex i hi),cell_set_same h.c8,cell_setO (by omega) h.c9,cell_setO (by omega) h.c10,fun j=>(World.frozen?_setCell _ _ _ _).trans (h.fz j)⟩
theorem MacC.set9{w:World}{b:Nat}{s:MSt}{ia:Option Addr}{il ic:Nat}{most:Int}{ka:Option Addr}{kn kc:Nat}{la:Option Addr}{ln lc:Nat}(h:MacC w b s ia il ic most ka kn kc la ln lc)(z:Nat):MacC (w.setCell ⟨b,264,none⟩ (.int .i64 (z:Int))) b { s with throws:=z } ia il ic most ka kn kc la ln lc :=
 ⟨cell_setO (by omega) h.c0,cell_setO (by omega) h.c1,cell_setO (by omega) h.c2,cell_setO (by omega) h.c3,cell_setO (by omega) h.c4,cell_setO (by omega) h.c5,cell_setO (by omega) h.c6,fun i hi=>cell_setO (by omega) (h.ex i hi),cell_setO (by omega) h.c8,cell_set_same h.c9,cell_setO (by omega) h.c10,fun j=>(World.frozen?_setCell _ _ _ _).trans (h.fz j)⟩
theorem MacC.set10{w:World}{b:Nat}{s:MSt}{ia:Option Addr}{il ic:Nat}{most:Int}{ka:Option Addr}{kn kc:Nat}{la:Option Addr}{ln lc:Nat}(h:MacC w b s ia il ic most ka kn kc la ln lc)(z:Int):MacC (w.setCell ⟨b,265,none⟩ (.int .i64 z)) b { s with label:=z } ia il ic most ka kn kc la ln lc :=
 ⟨cell_setO (by omega) h.c0,cell_setO (by omega) h.c1,cell_setO (by omega) h.c2,cell_setO (by omega) h.c3,cell_setO (by omega) h.c4,cell_setO (by omega) h.c5,cell_setO (by omega) h.c6,fun i hi=>cell_setO (by omega) (h.ex i hi),cell_setO (by omega) h.c8,cell_setO (by omega) h.c9,cell_set_same h.c10,fun j=>(World.frozen?_setCell _ _ _ _).trans (h.fz j)⟩
theorem MacA.put{K L:Nat→Prop}{w w':World}{b:Nat}{s s':MSt}{ia:Option Addr}{il ic:Nat}{most:Int}{ka:Option Addr}{kc:Nat}{la:Option Addr}{lc:Nat}(h:MacA K L w b s ia il ic most ka kc la lc)(ho:Only (fun x=>x=b) w w')(hst:s'.st=s.st)(hlog:s'.log=s.log)(hc:MacC w' b s' ia il ic most ka s.st.length kc la s.log.length lc):MacA K L w' b s' ia il ic most ka kc la lc:=by
 refine⟨by rw[hst,hlog];exact hc,?_,?_,fun x hx=>by rw[ho.size];exact h.lt x hx,h.kl,h.kb,h.lb⟩
 ·rw[hst];exact h.st.on (fun x hx=>ho.block x (fun e=>h.kb (e▸hx)))
 ·rw[hlog];exact h.log.on (fun x hx=>ho.block x (fun e=>h.lb (e▸hx)))
def rcode(t:MSt):Int:=if t.done then t.code else -1
def ActIs(t:MSt)(K L:Nat→Prop)(b:Nat)(ia:Option Addr)(il ic:Nat)(most:Int)(w:World)(e:Ending)(w':World):Prop :=
 e=.returned (.int .i64 (rcode t))∧∃z st ka kc la lc,∃K' L':Nat→Prop,(t.done=false→z=t.at_∧st=t.st)∧MacA K' L' w' b { t with at_:=z,st:=st } ia il ic most ka kc la lc ∧
  (∀x,K' x→K x∨New w w' x)∧(∀x,L' x→L x∨New w w' x)∧Kept (fun x=>K x∨L x∨x=b) w w'
end
section
open Go.RowKit
open M (OpD NodeD Gr InsD)
def GivesW(v:Value)(W:World)(e:Ending)(w':World):Prop:=e=.returned v∧w'=W
set_option maxRecDepth 100000 in
set_option maxHeartbeats 4000000 in
theorem take_none(b:Nat)(ka:Option Addr)(kc:Nat)(w:World)(c4:w.cell? ⟨b,4,none⟩=some (.slice ka 0 kc)) :
  Calls Tryz.prog 109 #[.pointer (some ⟨b,0,none⟩)] w (GivesW .nilIface w):=by
 go_enter Tryz.func109,Tryz.ntmps109;go_wp2;go_ret;exact⟨rfl,rfl⟩
set_option maxRecDepth 100000 in
set_option maxHeartbeats 4000000 in
theorem take_some(b g j kc:Nat)(v:Value)(w:World)(c4:w.cell? ⟨b,4,none⟩=some (.slice (some ⟨g,0,none⟩) (j+1) kc))(f4:w.frozen? ⟨b,4,none⟩=false)(cg:w.cell? ⟨g,j,none⟩=some v)(hj:j≤1000)(hk:j+1≤kc) :
  Calls Tryz.prog 109 #[.pointer (some ⟨b,0,none⟩)] w (GivesW v (w.setCell ⟨b,4,none⟩ (.slice (some ⟨g,0,none⟩) j kc))):=by
 have e1:((j+1:Nat):Int)-1=(j:Int):=by omega
 have hlt:(j:Int)<((j+1:Nat):Int):=by omega
 have hk':(j:Int)≤(kc:Int):=by omega
 go_enter Tryz.func109,Tryz.ntmps109;go_wp2;go_ret;exact⟨rfl,rfl⟩
theorem sizeHead:(Tryz.prog.info? 143).map (·.size)=some 2:=by kernel_rfl
theorem rowChoice : (Tryz.prog.info? 149).bind (fun i => (i.methods.find? (·.name == "loop.example/s0055/impl.head")).map (fun m => (m.path, m.func))) = some (#[⟨149, 0, false⟩], some (131, false)) := by kernel_rfl
theorem headChoice (fuel : Nat) (a b c d : Value) (w : World) : (method (fuel + 1) 149 (.agg #[a, b, c, d]) "loop.example/s0055/impl.head").run Tryz.prog w = .ok (131, .agg #[a, b]) w := by
 obtain⟨i,hi,hm⟩:=Option.bind_eq_some_iff.1 rowChoice;obtain⟨m,hf,hmm⟩:=Option.map_eq_some_iff.1 hm;simp only[Prod.mk.injEq]at hmm;obtain⟨j,hj,hs⟩:=Option.map_eq_some_iff.1 sizeHead;unfold method;simp[typeInfo,hi,hf,hmm.1,hmm.2,hj,hs,follow,run_underlying Tryz.underlying149,run_underlying Tryz.underlying143,receiverAt,part,isAgg,sizeOf,Place.get]
theorem rowNot : (Tryz.prog.info? 154).bind (fun i => (i.methods.find? (·.name == "loop.example/s0055/impl.head")).map (fun m => (m.path, m.func))) = some (#[⟨154, 0, false⟩], some (131, false)) := by kernel_rfl
theorem headNot (fuel : Nat) (a b c d : Value) (w : World) : (method (fuel + 1) 154 (.agg #[a, b, c, d]) "loop.example/s0055/impl.head").run Tryz.prog w = .ok (131, .agg #[a, b]) w := by
 obtain⟨i,hi,hm⟩:=Option.bind_eq_some_iff.1 rowNot;obtain⟨m,hf,hmm⟩:=Option.map_eq_some_iff.1 hm;simp only[Prod.mk.injEq]at hmm;obtain⟨j,hj,hs⟩:=Option.map_eq_some_iff.1 sizeHead;unfold method;simp[typeInfo,hi,hf,hmm.1,hmm.2,hj,hs,follow,run_underlying Tryz.underlying154,run_underlying Tryz.underlying143,receiverAt,part,isAgg,sizeOf,Place.get]
theorem rowRet : (Tryz.prog.info? 157).bind (fun i => (i.methods.find? (·.name == "loop.example/s0055/impl.head")).map (fun m => (m.path, m.func))) = some (#[⟨157, 0, false⟩], some (131, false)) := by kernel_rfl
theorem headRet (fuel : Nat) (a b : Value) (w : World) : (method (fuel + 1) 157 (.agg #[a, b]) "loop.example/s0055/impl.head").run Tryz.prog w = .ok (131, .agg #[a, b]) w := by
 obtain⟨i,hi,hm⟩:=Option.bind_eq_some_iff.1 rowRet;obtain⟨m,hf,hmm⟩:=Option.map_eq_some_iff.1 hm;simp only[Prod.mk.injEq]at hmm;obtain⟨j,hj,hs⟩:=Option.map_eq_some_iff.1 sizeHead;unfold method;simp[typeInfo,hi,hf,hmm.1,hmm.2,hj,hs,follow,run_underlying Tryz.underlying157,run_underlying Tryz.underlying143,receiverAt,part,isAgg,sizeOf,Place.get]
theorem field_not(z:Int)(n:Bool)(w:World):(Instr.field 143 (.agg #[.int .i64 z,.bool n]) 1).run Tryz.prog w=.ok (.bool n) w:=by
 simp[Instr.field,run_underlying Tryz.underlying143,run_underlying Tryz.underlying4,part,isAgg,asAgg]
theorem head_any(z:Int)(n:Bool)(w:World):Calls Tryz.prog 131 #[.agg #[.int .i64 z,.bool n]] w (GivesV (.agg #[.int .i64 z,.bool n]) w):=by
 go_enter Tryz.func131,Tryz.ntmps131;go_wp2;refine bodyPost_ret (v:=.agg #[.int .i64 z,.bool n]) ?_ rfl ⟨rfl,bel2 w _ _⟩;simp[results,Tryz.f131,go_sem]
set_option maxRecDepth 100000 in
set_option maxHeartbeats 4000000 in
theorem inside_none(b:Nat)(ka:Option Addr)(kc:Nat)(w:World)(c4:w.cell? ⟨b,4,none⟩=some (.slice ka 0 kc)) :
  Calls Tryz.prog 103 #[.pointer (some ⟨b,0,none⟩)] w (TellsB false w):=by
 go_enter Tryz.func103,Tryz.ntmps103;go_wp2;go_ret;exact⟨rfl,Below.refl _ _⟩
set_option maxRecDepth 100000 in
set_option maxHeartbeats 4000000 in
theorem inside_some(b g j kc:Nat)(f:FrD)(n:Bool)(w:World)(c4:w.cell? ⟨b,4,none⟩=some (.slice (some ⟨g,0,none⟩) (j+1) kc))(cg:w.cell? ⟨g,j,none⟩=some (frC f n))(hj:j≤1000) :
  Calls Tryz.prog 103 #[.pointer (some ⟨b,0,none⟩)] w (TellsB n w):=by
 have e1:((j+1:Nat):Int)-1=(j:Int):=by omega
 have hlt:(j:Int)<((j+1:Nat):Int):=by omega
 unfold frC at cg;split at cg
 ·skip
  have hfd:=field_not f.to n;have hm:=fun fuel w=>headChoice fuel (.int .i64 f.to) (.bool n) (.int .i64 (f.pos:Int)) (.int .i64 (f.log:Int)) w
  go_enter Tryz.func103,Tryz.ntmps103;go_wp2_with (go_at_call 131;refine (head_any _ _ _).mono ?_;rintro e W ⟨rfl,hb⟩;have HB:Hid _:=hb;clear hb);go_ret;exact⟨rfl,HB.out⟩
 ·split at cg
  ·skip
   have hfd:=field_not f.to n;have hm:=fun fuel w=>headNot fuel (.int .i64 f.to) (.bool n) (.int .i64 (f.pos:Int)) (.int .i64 (f.log:Int)) w
   go_enter Tryz.func103,Tryz.ntmps103;go_wp2_with (go_at_call 131;refine (head_any _ _ _).mono ?_;rintro e W ⟨rfl,hb⟩;have HB:Hid _:=hb;clear hb);go_ret;exact⟨rfl,HB.out⟩
  ·skip
   have hfd:=field_not f.to n;have hm:=fun fuel w=>headRet fuel (.int .i64 f.to) (.bool n) w
   go_enter Tryz.func103,Tryz.ntmps103;go_wp2_with (go_at_call 131;refine (head_any _ _ _).mono ?_;rintro e W ⟨rfl,hb⟩;have HB:Hid _:=hb;clear hb);go_ret;exact⟨rfl,HB.out⟩
theorem top_cell{K:Nat→Prop}{w:World}{ka:Option Addr}{kc:Nat}{l:List FrD}{j:Nat}{f:FrD}(h:OwnC K w (.slice ka l.length kc) 1 l.length (cellsG false l))(hl:l.length=j+1)(hf:l[j]? = some f) :
  ∃g,ka=some ⟨g,0,none⟩∧K g∧l.length≤kc∧w.cell? ⟨g,j,none⟩=some (frC f (l.any (fun f=>f.kind==1))):=by
 rcases h with⟨_,e,_⟩|⟨g,cap,e,hq,h3,h4,h5,h6⟩
 ·omega
 ·injection e with e1 e2 e3
  refine⟨g,e1,hq,by omega,?_⟩
  rw[h5 j (by rw[cellsG_len];omega),cellsG_get l false j f hf,List.take_of_length_le (by omega),Bool.false_or]
theorem inside_any(K L:Nat→Prop)(b:Nat)(s:MSt)(ia:Option Addr)(il ic:Nat)(most:Int)(ka:Option Addr)(kc:Nat)(la:Option Addr)(lc:Nat)(w:World)(hA:MacA K L w b s ia il ic most ka kc la lc)(hn:s.st.length≤1000) :
  Calls Tryz.prog 103 #[.pointer (some ⟨b,0,none⟩)] w (TellsB s.inNot w):=by
 have c4:=hA.c.c4;rcases Nat.eq_zero_or_pos s.st.length with h0 | h0
 ·have e:s.inNot=false:=by unfold MSt.inNot;rw[List.eq_nil_of_length_eq_zero h0];rfl
  rw[e];rw[h0]at c4;exact inside_none b ka kc w c4
 ·obtain⟨j,hj⟩:∃j,s.st.length=j+1:=⟨s.st.length-1,by omega⟩
  obtain⟨f,hf,_⟩:=getLast_at hj;obtain⟨g,rfl,hg,hkc,hc⟩:=top_cell hA.st hj hf;rw[hj]at c4;exact inside_some b g j kc f s.inNot w c4 hc (by omega)
set_option maxRecDepth 100000 in
set_option maxHeartbeats 4000000 in
theorem headerTo_any(K L:Nat→Prop)(b:Nat)(s:MSt)(ia:Option Addr)(il ic:Nat)(most:Int)(ka:Option Addr)(kc:Nat)(la:Option Addr)(lc:Nat)(z:Int)(w:World)(hA:MacA K L w b s ia il ic most ka kc la lc)(hn:s.st.length≤1000) :
  Calls Tryz.prog 107 #[.pointer (some ⟨b,0,none⟩),.int .i64 z] w (GivesV (.agg #[.int .i64 z,.bool s.inNot]) w):=by
 have HA:Hid (MacA K L w b s ia il ic most ka kc la lc):=hA;clear hA;obtain⟨nn,hnn⟩:∃nn,s.inNot=nn:=⟨_,rfl⟩;have HNN:Hid (s.inNot=nn):=hnn;rw[hnn];clear hnn;go_enter Tryz.func107,Tryz.ntmps107;go_wp2_with fail;refine (inside_any K L b s ia il ic most ka kc la lc _ (HA.out.later (bel1 w _)) hn).mono ?_;rintro e W ⟨rfl,hb⟩;rw[HNN.out];have x0:=cell_on (a:=⟨w.heap.size,0,none⟩) (v:=.int .i64 0) (cN w.heap.size rfl rfl) hb;have x1:=cell_on (a:=⟨w.heap.size,1,none⟩) (v:=.bool false) (cN w.heap.size rfl rfl) hb;have f0:W.frozen? ⟨w.heap.size,0,none⟩=false:=by
  rw[hb.frozen (p:=⟨w.heap.size,0,none⟩) (by simp)]
  exact soft1 w _ 143 _ _ (by omega) (by simp)
 have f1:W.frozen? ⟨w.heap.size,1,none⟩=false:=by
  rw[hb.frozen (p:=⟨w.heap.size,1,none⟩) (by simp)]
  exact soft1 w _ 143 _ _ (by omega) (by simp)
 have HB:Hid (Below w.heap.size w W):=bel_tr (bel1 w _) hb;clear hb;go_wp2;refine bodyPost_ret (v:=.agg #[.int .i64 z,.bool nn]) ?_ rfl ?_
 ·simp[results,Tryz.f107,go_sem, *]
 ·exact⟨rfl,bel_set (bel_set HB.out _ _ _ (by omega)) _ _ _ (by omega)⟩
set_option maxRecDepth 100000 in
set_option maxHeartbeats 4000000 in
theorem here_any(b pos ln lc:Nat)(la:Option Addr)(w:World)(c3:w.cell? ⟨b,3,none⟩=some (.int .i64 (pos:Int)))(c5:w.cell? ⟨b,5,none⟩=some (.slice la ln lc)) :
  Calls Tryz.prog 108 #[.pointer (some ⟨b,0,none⟩)] w (GivesV (.agg #[.int .i64 (pos:Int),.int .i64 (ln:Int)]) w):=by
 have lb:b<w.heap.size:=lt_of_cell c3;go_enter Tryz.func108,Tryz.ntmps108;go_wp2;go_region;all_goals
  go_wp2;refine bodyPost_ret (v:=.agg #[.int .i64 (pos:Int),.int .i64 (ln:Int)]) ?_ rfl ?_
  ·simp[results,Tryz.f108,go_sem, *]
  ·exact⟨rfl,(bel1 w _).drew⟩
end
end Go.Proofs.YtcbnnfnlilbjeaaGreat
