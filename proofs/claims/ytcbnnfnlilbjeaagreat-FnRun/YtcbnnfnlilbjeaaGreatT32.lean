import Derived.Test.YtcbnnfnlilbjeaaGreatT09
import Derived.Test.YtcbnnfnlilbjeaaGreatT31
import Derived.BigRegion
import Derived.Deep.RegionLaw
set_option linter.unusedVariables false
set_option linter.unusedSimpArgs false
namespace Go.Proofs.YtcbnnfnlilbjeaaGreat
section
open Go.RowKit
open M (OpD NodeD Gr InsD)
theorem enterDo(args:Array Value)(w:World):(callFunc 19 args).run Tryz.prog w=.ok (.enter 19 args) w:=by
  simp[callFunc,Tryz.func19,Tryz.f19,go_sem]
def r1I(X:World)(n:Nat)(R:Nat→InsD)(iv:Value)(wr:World):Prop:=∃k:Nat,k≤n∧iv=.int .i64 (k:Int)∧(∀i,i<k→(R i).sl≤512)∧wr=X
theorem appD_run{Q:Nat→Prop}{w:World}{v x:Value}{sz bytes n m:Nat}{cs news:List Value}{t tx e:TypeId}(ty:TypeId)(hE:ElemT t e sz bytes)(hown:OwnC Q w v sz n cs)(hs:Src Tryz.prog sz tx x m news w)(hlen:n+m≤16777216) :
    ∃v' w',(Builtin.append_ #[t,tx] ty #[v,x]).run Tryz.prog w=.ok v' w'∧OwnC (fun b=>Q b∨w.heap.size≤b) w' v' sz (n+m) (cs++news)∧Grew (fun b=>Q b) w w'∧w'.heap.size≤w.heap.size+1:=by
  by_cases hm:v=.slice none 0 0→0<m
  · exact appC_run' ty hE hown hs hlen hm
  · have hv:v=.slice none 0 0:=Classical.byContradiction (fun h=>hm (fun q=>absurd q h))
    obtain rfl:m=0:=by
      by_cases h:m=0
      · exact h
      · exact absurd (fun _=>by omega) hm
    have hl:=hs.newsLen;obtain rfl:news = []:=List.eq_nil_of_length_eq_zero (by omega)
    subst hv;have h0:n=0∧cs = []:=by
      rcases hown with⟨_,h,h'⟩|⟨g,cap,h,_⟩
      · exact⟨h,h'⟩
      · cases h
    obtain⟨rfl,rfl⟩:=h0;exact⟨_,_,appN_run ty hE hs,.inl ⟨rfl,rfl,rfl⟩,⟨rfl,rfl,rfl,Nat.le_refl _,fun _ _ _=>rfl,fun _ _ _=>rfl,fun _ _ h1 h2=>absurd h2 (by omega)⟩,by omega⟩
theorem appD{ops:Array Oper}{rest:List Oper}{o:Oper}{a:Act}{P':Exit→Act→World→Prop}{w:World}(hgd:o.guard=none)(s x:Operand)(t tx:TypeId)(ho:o.op=.call { callee:=.builtin .append,args:=#[s,x],argTypes:=#[t,tx] })
    {Q:Nat→Prop} {v y:Value} {e:TypeId} {sz bytes n m:Nat} {cs news:List Value} (hs:a.eval s=v) (hx:a.eval x=y) (hE:ElemT t e sz bytes) (hown:OwnC Q w v sz n cs) (hsrc:Src Tryz.prog sz tx y m news w) (hlen:n+m≤16777216)
    (h:∀v' w',OwnC (fun b=>Q b∨w.heap.size≤b) w' v' sz (n+m) (cs++news)→Grew (fun b=>Q b) w w'→w'.heap.size≤w.heap.size+1→wpList Tryz.prog ops P' rest (a.put o.dst v') w'):wpList Tryz.prog ops P' (o::rest) a w:=by
  refine wpList_plain hgd fun K hK=>?_
  obtain⟨v',w',hr,h1,h2,h3⟩:=appD_run o.type hE hown hsrc hlen;unfold Oper.wp execOp;simp only[ho,resolve,invoke,builtin,Sem.run_bind,Sem.run_pure,Result.andThen_ok,List.map_toArray,List.map_cons,List.map_nil,hs,hx,hr];exact hK _ _ (h v' w' h1 h2 h3)
def set8(w:World)(b:Nat)(v0 v1 v2 v3 v4 v5 v6 v7:Value):World:=((((((((w.setCell ⟨b,0,none⟩ v0).setCell ⟨b,1,none⟩ v1).setCell ⟨b,2,none⟩ v2).setCell ⟨b,3,none⟩ v3).setCell ⟨b,4,none⟩ v4).setCell ⟨b,5,none⟩ v5).setCell ⟨b,6,none⟩ v6).setCell ⟨b,7,none⟩ v7)
theorem set8_only(w:World)(b:Nat)(v0 v1 v2 v3 v4 v5 v6 v7:Value):Only (fun x=>x=b) w (set8 w b v0 v1 v2 v3 v4 v5 v6 v7):=by
  unfold set8;have h:=fun (o:Nat) (v:Value) {W:World} (k:Only (fun x=>x=b) w W)=>Only.set (P:=fun x=>x=b) k b o v rfl
  exact h 7 v7 (h 6 v6 (h 5 v5 (h 4 v4 (h 3 v3 (h 2 v2 (h 1 v1 (h 0 v0 (Only.refl _ _))))))))
theorem late_bel{w wr:World}(hb:Below w.heap.size w wr)(v0 v1 v2 v3 v4 v5 v6 v7:Value)(obj:Obj):Below w.heap.size w ((set8 wr w.heap.size v0 v1 v2 v3 v4 v5 v6 v7).alloc obj):=by
  have ho:=set8_only wr w.heap.size v0 v1 v2 v3 v4 v5 v6 v7;generalize set8 wr w.heap.size v0 v1 v2 v3 v4 v5 v6 v7=Y at *;have h1:Below w.heap.size w Y:=⟨ho.os.trans hb.os,ho.tape.trans hb.tape,ho.output.trans hb.output,by rw[ho.size];exact hb.size,fun b hq=>(ho.block b (by omega)).trans (hb.block b hq)⟩
  exact bel_tr h1 (bel1 Y obj)
theorem late_ints{w wr:World}{X:Nat→Prop}{xa:Option Addr}{n:Nat}{f:Nat→Int}(hX:Ints X .i64 wr xa n f)(lo:∀b,X b→w.heap.size+2≤b)(lt:∀b,X b→b<wr.heap.size)(v0 v1 v2 v3 v4 v5 v6 v7:Value)(obj:Obj):Ints (New w ((set8 wr w.heap.size v0 v1 v2 v3 v4 v5 v6 v7).alloc obj)) .i64 ((set8 wr w.heap.size v0 v1 v2 v3 v4 v5 v6 v7).alloc obj) xa n f:=by
  have ho:=set8_only wr w.heap.size v0 v1 v2 v3 v4 v5 v6 v7;generalize set8 wr w.heap.size v0 v1 v2 v3 v4 v5 v6 v7=Y at *;refine ((hX.on (fun b hb=>ho.block b (by have:=lo b hb;omega))).later (bel1 Y obj)).wide (fun b hb=>⟨by have:=lo b hb;omega,?_⟩)
  have h1:=lt b hb;have h2:=(bel1 Y obj).size;rw[ho.size]at h2;omega
theorem cellsE_one(l:List EvD):∀u,u∈cellsE l→u.oneCell'=true:=fun u hu=>by
  obtain⟨e,_,he⟩:=List.mem_flatMap.1 hu;simp[evv]at he;rcases he with rfl | rfl | rfl<;>rfl
theorem own_src{L:Nat→Prop}{w:World}{a:Option Addr}{c:Nat}{l:List EvD}(h:OwnC L w (.slice a l.length c) 3 l.length (cellsE l)):Src Tryz.prog 3 34 (.slice a l.length c) l.length (cellsE l) w:=by
  rcases h with⟨e,e1,e2⟩|⟨g,cap,e,hq,h3,h4,h5,h6⟩
  · obtain rfl:a=none:=by injection e
    rw[e1,e2];exact Src.ofNil _ Tryz.underlying34 c
  · obtain rfl:a=some ⟨g,0,none⟩:=by injection e
    refine Src.ofSlice (P:=Tryz.prog) _ Tryz.underlying34 ⟨g,0,none⟩ _ c (cellsE l) h3 (fun j u hu=>?_) (cellsE_one l)
    have e':(⟨g,0,none⟩:Addr).add j=⟨g,j,none⟩:=by
      by_cases h0:j=0
      · subst h0;simp[Addr.add]
      · simp[Addr.add,h0]
    rw[e',h5 j (List.getElem?_eq_some_iff.1 hu).1];exact hu
theorem cellsE_get:∀(l:List EvD) (i j:Nat) (x:EvD),l[i]? = some x→j<3→(cellsE l)[i*3+j]? = (evv x)[j]?
  | [],i,j,x,h,_=>by simp at h
  |y::l,0,j,x,h,hj=>by
    simp at h;subst h;show (evv y++cellsE l)[0*3+j]? = _;rw[List.getElem?_append_left (by show 0*3+j<3;omega)]
    simp
  |y::l,i+1,j,x,h,hj=>by
    simp at h;show (evv y++cellsE l)[(i+1)*3+j]? = _;have h4:(evv y).length=3:=rfl;rw[List.getElem?_append_right (by rw[h4];omega),h4,show (i+1)*3+j-3=i*3+j by omega]
    exact cellsE_get l i j x h hj
theorem own_evs{Q:Nat→Prop}{w:World}{a:Option Addr}{c:Nat}{l:List EvD}(h:OwnC Q w (.slice a l.length c) 3 l.length (cellsE l)):EvW Q w a l.length (fun i=>l.getD i ⟨0,0,0⟩):=by
  rcases h with⟨_,e,_⟩|⟨g,cap,e,hq,hl,hc,hcell,hw⟩
  · exact .inl e
  · obtain rfl:a=some ⟨g,0,none⟩:=by injection e
    refine .inr ⟨g,rfl,hq,fun j hj=>(hw j (by omega)).2,fun i hi=>?_⟩
    have hx:l[i]? = some (l.getD i ⟨0,0,0⟩):=by rw[List.getD_eq_getElem?_getD,List.getElem?_eq_getElem hi];rfl
    have hg:∀j,j<3→w.cell? ⟨g,i*3+j,none⟩=(evv (l.getD i ⟨0,0,0⟩))[j]?:=fun j hj=>by
      rw[hcell _ (by omega),cellsE_get l i j _ hx hj]
    exact⟨hg 0 (by omega),hg 1 (by omega),hg 2 (by omega)⟩
theorem late0{w wr W4 W':World}{X:Nat→Prop}{xa a4:Option Addr}{n c4:Nat}{f:Nat→Int}{l:List EvD}{obj:Obj}(hb:Below w.heap.size w wr)(hX:Ints X .i64 wr xa n f)(lo:∀b,X b→w.heap.size+2≤b)(lt:∀b,X b→b<wr.heap.size)(hg:Grew (fun _=>False) (wr.alloc obj) W4)(ho:OwnC (fun b=>False∨(wr.alloc obj).heap.size≤b) W4 (.slice a4 l.length c4) 3 l.length ([]++cellsE l))(u:Value)(v0 v1 v2 v3 v4 v5 v6 v7:Value)(e:W'=set8 (W4.setCell ⟨wr.heap.size,7,none⟩ u) w.heap.size v0 v1 v2 v3 v4 v5 v6 v7) :
    Ints (New w W') .i64 W' xa n f∧EvA (New w W') W' a4 l.length (fun i=>l.getD i ⟨0,0,0⟩)∧Below w.heap.size w W':=by
  subst e;have hs8:=set8_only (W4.setCell ⟨wr.heap.size,7,none⟩ u) w.heap.size v0 v1 v2 v3 v4 v5 v6 v7;generalize set8 (W4.setCell ⟨wr.heap.size,7,none⟩ u) w.heap.size v0 v1 v2 v3 v4 v5 v6 v7=W' at *;have h1:=hs8.size;rw[size_set]at h1;have h2:=hg.size;have h3:(wr.alloc obj).heap.size=wr.heap.size+1:=by simp
  have h4:=hb.size;have blk:∀b,b≠w.heap.size→b≠wr.heap.size→W'.heap[b]? = W4.heap[b]?:=fun b q1 q2=>(hs8.block b q1).trans (Below.heap_setCell _ _ _ _ q2)
  have old:∀b,b<wr.heap.size→W4.heap[b]? = wr.heap[b]?:=fun b q=>(hg.block b (by omega) (fun q=>q)).trans (Below.heap_alloc wr _ _ q)
  refine⟨(hX.on (fun b hq=>?_)).wide (fun b hq=>⟨by have:=lo b hq;omega,by have:=lt b hq;omega⟩),?_,⟨hs8.os.trans (hg.os.trans hb.os),hs8.tape.trans (hg.tape.trans hb.tape),hs8.output.trans (hg.output.trans hb.output),by omega,fun b hq=>(blk b (by omega) (by omega)).trans ((old b (by omega)).trans (hb.block b hq))⟩⟩
  · have q1:=lo b hq
    have q2:=lt b hq;exact (blk b (by omega) (by omega)).trans (old b q2)
  · rw[List.nil_append]at ho
    have hE:=own_evs ho;rcases hE with h0 | ⟨b,ea,hq,hf,hE⟩
    · exact .inl h0
    · by_cases h0:l.length=0
      · exact .inl h0
      · have hbl:(wr.alloc obj).heap.size≤b:=hq.elim (fun q=>q.elim) id
        have hlt:b<W4.heap.size:=lt_of_cell (hE 0 (by omega)).1
        have hk:=blk b (by omega) (by omega)
        refine .inr ⟨b,0,ea,⟨by omega,by omega⟩,fun i hi=>?_⟩
        rw[Nat.zero_add];obtain⟨c0,c1,c2⟩:=hE i hi;exact⟨(World.cell?_of_block (a:=⟨b,i*3,none⟩) hk).trans c0,(World.cell?_of_block (a:=⟨b,i*3+1,none⟩) hk).trans c1,(World.cell?_of_block (a:=⟨b,i*3+2,none⟩) hk).trans c2⟩
theorem rg_none_(b:Nat):rg (fun _=>false) b = []:=by
  induction b with
  |zero=>rfl
  |succ b ih=>rw[rg,ih];rfl
theorem rg_none:(rg s0.exp 256).length=0:=by
  show (rg (fun _=>false) 256).length=0
  rw[rg_none_];rfl
set_option maxRecDepth 100000 in
set_option maxHeartbeats 16000000 in
theorem srun_any(Q Q':Nat→Prop)(a:Option Addr)(n c:Nat)(R:Nat→InsD)(ia:Option Addr)(il ic:Nat)(I:Nat→Int)(fuel most:Int)(o:OutD)(w:World)(hA:InsA Q w a n R)(hsl:∀i,i<n→(R i).sl≤1048576)(hn:n≤1048576)(hI:Ints Q' .u8 w ia il I)(hB:Byt il I)(hil:il≤1048576)(hD:RunD n R il I fuel most o) :
    Calls Tryz.prog 8 #[.slice a n c,.slice ia il ic,.int .i64 fuel,.int .i64 most] w (RunIs o w):=by
  have HA:Hid (InsA Q w a n R):=hA;have HSL:Hid (∀i,i<n→(R i).sl≤1048576):=hsl;have HI:Hid (Ints Q' .u8 w ia il I):=hI;have HBY:Hid (Byt il I):=hB;have HD:Hid (RunD n R il I fuel most o):=hD;clear hA hsl hI hB hD;by_cases hbd:0≤fuel∧fuel≤50000∧0≤most∧most≤1000
  · obtain⟨f0,f1,m0,m1⟩:=hbd
    have df0:decide (fuel<0)=false:=by simp;omega
    have df1:decide (50000<fuel)=false:=by simp;omega
    have dm0:decide (most<0)=false:=by simp;omega
    have dm1:decide (1000<most)=false:=by simp;omega
    go_enter Tryz.func8,Tryz.ntmps8;go_wp2;generalize hX:w.alloc _=X;have HX:Hid (w.alloc (.cells #[.int .i64 0,.int .i64 0,.int .i64 0,.int .i64 0,.slice none 0 0,.int .i64 0,.int .i64 0,.slice none 0 0] 36)=X):=hX;have HBX:Hid (Below w.heap.size w X):=hX▸bel1 w _;have hxs:X.heap.size=w.heap.size+1:=by rw[←hX];simp
    have HXS:Hid (X.heap.size=w.heap.size+1):=hxs;have hres:X.heap[w.heap.size]? = some (.cells #[.int .i64 0,.int .i64 0,.int .i64 0,.int .i64 0,.slice none 0 0,.int .i64 0,.int .i64 0,.slice none 0 0] 36):=hX▸blk_new w _ _ rfl;have HRES:Hid (X.heap[w.heap.size]? = some (.cells #[.int .i64 0,.int .i64 0,.int .i64 0,.int .i64 0,.slice none 0 0,.int .i64 0,.int .i64 0,.slice none 0 0] 36)):=hres;clear hX hxs hres;go_loopw [9] (fun iv wr=>r1I X n R iv wr) (fun iv _=>n-(intOf iv).toNat)
    case atStart=>exact⟨0,Nat.zero_le _,rfl,fun i hi=>absurd hi (Nat.not_lt_zero _),rfl⟩
    case round =>
      obtain⟨k,hk,rfl,hall,hw⟩:=hrel;subst hw;have HALL:Hid (∀i,i<k→(R i).sl≤512):=hall;clear hall;by_cases hlt:k<n
      · have hA:=HA.out.later HBX.out
        rcases hA with h0 | ⟨b,off,rfl,hq,hA⟩
        · omega
        obtain⟨c0,c1,c2,sa,sc,c3,hs⟩:=hA k hlt;have lb:=lt_of_cell c0;have hlt':(k:Int)<(n:Int):=by omega
        have hsk:=HSL.out k hlt;obtain⟨sl,hsl⟩:∃sl,(R k).sl=sl:=⟨_,rfl⟩;have HSK:Hid ((R k).sl=sl):=hsl;rw[hsl]at c3 hsk;clear hA hs hsl;by_cases hbig:512<sl
        · have HBAD:Hid (∀W,Below w.heap.size w W→RunIs o w (.returned (outV (outBad 4) none 0 none 0)) W):=fun W hW=>by
            rcases HD.out with⟨h,_⟩|⟨_,rfl⟩
            · have:=h.sets k hlt;rw[HSK.out]at this;omega
            · exact run_bad 4 hW
          have hbig':(512:Int)<(sl:Int):=by omega
          have hx0:=HRES.out;have x0:=blk_cell (j:=0) hx0 rfl;have g0:=blk_frz (j:=0) hx0;have x1:=blk_cell (j:=1) hx0 rfl;have g1:=blk_frz (j:=1) hx0;have x2:=blk_cell (j:=2) hx0 rfl;have g2:=blk_frz (j:=2) hx0;have x3:=blk_cell (j:=3) hx0 rfl;have g3:=blk_frz (j:=3) hx0;have x4:=blk_cell (j:=4) hx0 rfl;have g4:=blk_frz (j:=4) hx0;have x5:=blk_cell (j:=5) hx0 rfl;have g5:=blk_frz (j:=5) hx0;have x6:=blk_cell (j:=6) hx0 rfl;have g6:=blk_frz (j:=6) hx0;have x7:=blk_cell (j:=7) hx0 rfl;have g7:=blk_frz (j:=7) hx0;have lx:w.heap.size<wr.heap.size:=lt_of_cell x0;clear hx0;go_wp2;refine bodyPost_ret (v:=outV (outBad 4) none 0 none 0) ?_ rfl ?_
          · unfold outV outBad
            simp[results,Tryz.f8,go_sem, *]
          · refine HBAD.out _ ?_
            exact bel_set (bel_set (bel_set (bel_set (bel_set (bel_set (bel_set (bel_set (HBX.out) _ _ _ (Nat.le_refl _)) _ _ _ (Nat.le_refl _)) _ _ _ (Nat.le_refl _)) _ _ _ (Nat.le_refl _)) _ _ _ (Nat.le_refl _)) _ _ _ (Nat.le_refl _)) _ _ _ (Nat.le_refl _)) _ _ _ (Nat.le_refl _)
        · have HNX:Hid (∀i,i<k+1→(R i).sl≤512):=fun i hi=>by
            by_cases e:i=k
            · rw[e,HSK.out];omega
            · exact HALL.out i (by omega)
          have hbig':¬(512:Int)<(sl:Int):=by omega
          go_wp2;go_roundw
          case rel=>exact⟨k+1,by omega,by go_num,HNX.out,rfl⟩
          case measure=>simp[intOf];omega
      · obtain rfl:k=n:=by omega
        have HOK:Hid (RArgs k R fuel most):=⟨f0,f1,m0,m1,HALL.out⟩;obtain⟨t,HEN,HOT⟩:∃t,Hid (Ends k R il I fuel most s0 t)∧Hid (o=outOf t):=by
          rcases HD.out with⟨_,t,h1,h2⟩|⟨h,_⟩
          · exact⟨t,h1,h2⟩
          · exact absurd HOK.out h
        go_wp2;rw[HXS.out];go_loopw [41] (fun pv wr=>ruI w t k R il I fuel most wr) (fun pv wr=>2*(fuel.toNat-stAt wr (w.heap.size+1))+doAt wr (w.heap.size+1))
        case atStart =>
          have hxs:=HXS.out;refine⟨s0,none,0,none,0,none,0,0,fun _=>False,fun _=>False,fun _=>False,blk_new wr _ _ (by omega),blk_old HRES.out _,⟨.inl ⟨rfl,rfl,rfl⟩,.inl ⟨rfl,rfl,rfl⟩,⟨rg_none.symm,.inl rfl⟩,fun b q=>(q.elim id (fun q=>q.elim id id)).elim,fun b q=>q.elim,fun b q=>q.elim,fun b q=>q.elim⟩,fun b q=>(q.elim id (fun q=>q.elim id id)).elim,⟨m0,Nat.le_refl _,(fun f hf=>by cases hf),List.Pairwise.nil,(fun f hf=>by cases hf)⟩,f0,Nat.le_refl _,HEN.out,bel_tr HBX.out (bel1 wr _)⟩
        case round =>
          obtain⟨s,ka,kc,la,lc,xa,xn,xc,K,L,X,h⟩:=hrel;have HR:Hid (RuA w t k R il I fuel most s wr ka kc la lc xa xn xc K L X):=h;have hbx:=h.box;have hrs:=h.res;have z0:wr.cell? ⟨w.heap.size+1,0,none⟩=some (.int .i64 s.at_):=blk_cell (j:=0) hbx rfl;have p0:=blk_frz (j:=0) hbx;have z1:wr.cell? ⟨w.heap.size+1,1,none⟩=some (.int .i64 (s.pos:Int)):=blk_cell (j:=1) hbx rfl;have p1:=blk_frz (j:=1) hbx;have z2:wr.cell? ⟨w.heap.size+1,2,none⟩=some (.slice ka s.st.length kc):=blk_cell (j:=2) hbx rfl;have p2:=blk_frz (j:=2) hbx;have z3:wr.cell? ⟨w.heap.size+1,3,none⟩=some (.slice la s.log.length lc):=blk_cell (j:=3) hbx rfl;have p3:=blk_frz (j:=3) hbx;have z4:wr.cell? ⟨w.heap.size+1,4,none⟩=some (.int .i64 (s.far:Int)):=blk_cell (j:=4) hbx rfl;have p4:=blk_frz (j:=4) hbx;have z5:wr.cell? ⟨w.heap.size+1,5,none⟩=some (.slice xa xn xc):=blk_cell (j:=5) hbx rfl;have p5:=blk_frz (j:=5) hbx;have z6:wr.cell? ⟨w.heap.size+1,6,none⟩=some (.int .i64 (s.steps:Int)):=blk_cell (j:=6) hbx rfl;have p6:=blk_frz (j:=6) hbx;have z7:wr.cell? ⟨w.heap.size+1,7,none⟩=some (.int .i64 (s.throws:Int)):=blk_cell (j:=7) hbx rfl;have p7:=blk_frz (j:=7) hbx;have z8:wr.cell? ⟨w.heap.size+1,8,none⟩=some (.bool s.done):=blk_cell (j:=8) hbx rfl;have p8:=blk_frz (j:=8) hbx;have z9:wr.cell? ⟨w.heap.size+1,9,none⟩=some (.int .i64 s.code):=blk_cell (j:=9) hbx rfl;have p9:=blk_frz (j:=9) hbx;have z10:wr.cell? ⟨w.heap.size+1,10,none⟩=some (.int .i64 s.label):=blk_cell (j:=10) hbx rfl;have p10:=blk_frz (j:=10) hbx;have lw0:w.heap.size<wr.heap.size:=(Array.getElem?_eq_some_iff.1 hrs).1;have lw1:w.heap.size+1<wr.heap.size:=lt_of_cell z0;have hst:=h.st;clear h hbx hrs;cases hd:s.done with
          |false =>
            have HDN:Hid (s.done=false):=hd;rw[hd]at z8;clear hd;by_cases hat:s.at_<0∨(k:Int)≤s.at_
            · have HNX:Hid (s.next k R il I fuel most=s.fin 4):=by show _=_;unfold MSt.next;rw[if_pos hat]
              by_cases ha:s.at_<0
              · clear hat
                go_wp2_with fail;have hc:=l4end_any s ka la xa kc lc xn xc 4 wr;obtain⟨s2,hs2⟩:∃s2,s.fin 4=s2:=⟨_,rfl⟩;have HS2:Hid (s.fin 4=s2):=hs2;rw[hs2]at hc;unfold stV at hc;rw[HDN.out]at hc;refine hc.mono ?_;clear hc hs2;rintro e W ⟨rfl,hb⟩;have hbx:=(hb.block _ lw1).trans HR.out.box;have lwW:w.heap.size+1<W.heap.size:=Nat.lt_of_lt_of_le lw1 hb.size;replace z0:W.cell? ⟨w.heap.size+1,0,none⟩=some (.int .i64 s.at_):=blk_cell (j:=0) hbx rfl;replace p0:=blk_frz (j:=0) hbx;replace z1:W.cell? ⟨w.heap.size+1,1,none⟩=some (.int .i64 (s.pos:Int)):=blk_cell (j:=1) hbx rfl;replace p1:=blk_frz (j:=1) hbx;replace z2:W.cell? ⟨w.heap.size+1,2,none⟩=some (.slice ka s.st.length kc):=blk_cell (j:=2) hbx rfl;replace p2:=blk_frz (j:=2) hbx;replace z3:W.cell? ⟨w.heap.size+1,3,none⟩=some (.slice la s.log.length lc):=blk_cell (j:=3) hbx rfl;replace p3:=blk_frz (j:=3) hbx;replace z4:W.cell? ⟨w.heap.size+1,4,none⟩=some (.int .i64 (s.far:Int)):=blk_cell (j:=4) hbx rfl;replace p4:=blk_frz (j:=4) hbx;replace z5:W.cell? ⟨w.heap.size+1,5,none⟩=some (.slice xa xn xc):=blk_cell (j:=5) hbx rfl;replace p5:=blk_frz (j:=5) hbx;replace z6:W.cell? ⟨w.heap.size+1,6,none⟩=some (.int .i64 (s.steps:Int)):=blk_cell (j:=6) hbx rfl;replace p6:=blk_frz (j:=6) hbx;replace z7:W.cell? ⟨w.heap.size+1,7,none⟩=some (.int .i64 (s.throws:Int)):=blk_cell (j:=7) hbx rfl;replace p7:=blk_frz (j:=7) hbx;replace z8:W.cell? ⟨w.heap.size+1,8,none⟩=some (.bool false):=(blk_cell (j:=8) (v:=.bool s.done) hbx rfl).trans (by rw[HDN.out])
                replace p8:=blk_frz (j:=8) hbx;replace z9:W.cell? ⟨w.heap.size+1,9,none⟩=some (.int .i64 s.code):=blk_cell (j:=9) hbx rfl;replace p9:=blk_frz (j:=9) hbx;replace z10:W.cell? ⟨w.heap.size+1,10,none⟩=some (.int .i64 s.label):=blk_cell (j:=10) hbx rfl;replace p10:=blk_frz (j:=10) hbx;have HBW:Hid (Below wr.heap.size wr W):=hb;have HBX2:Hid (W.heap[w.heap.size+1]? = some (.cells (stArr s ka kc la lc xa xn xc) 55)):=hbx;have HST:Hid (∀W',Only (fun b=>b=w.heap.size+1) W W'→W'.heap[w.heap.size+1]? = some (.cells (stArr s2 ka kc la lc xa xn xc) 55)→ruI w t k R il I fuel most W'∧2*(fuel.toNat-stAt W' (w.heap.size+1))+doAt W' (w.heap.size+1)<2*(fuel.toNat-stAt wr (w.heap.size+1))+doAt wr (w.heap.size+1)):=fun W' h1 h2 =>
                  ru_next HR.out HDN.out (HNX.out.trans HS2.out) (Only.refl _ wr) (Kept.of HBW.out) h1 ((HR.out.a.on (fun b hb=>HBW.out.block b (HR.out.a.lt b hb)) HBW.out.size).same (by rw[←HS2.out];rfl) (by rw[←HS2.out];rfl) (by rw[←HS2.out];rfl)) (fun b hb=>.inl hb) (fun b hb=>.inl hb) (fun b hb=>.inl hb) h2 (by rw[←HS2.out];exact HR.out.thr)
                clear hb hbx;go_wp2;go_roundw
                case rel =>
                  refine (HST.out _ ?_ ?_).1
                  · exact set11_only _ _ _ _ _ _ _ _ _ _ _ _ _
                  · exact set11_box _ _ _ _ _ _ _ _ _ _ _ HBX2.out
                case measure =>
                  refine (HST.out _ ?_ ?_).2
                  · exact set11_only _ _ _ _ _ _ _ _ _ _ _ _ _
                  · exact set11_box _ _ _ _ _ _ _ _ _ _ _ HBX2.out
              · have ha1:(k:Int)≤s.at_:=hat.elim (fun q=>by omega) id
                have da0:decide (s.at_<0)=false:=by simp;omega
                clear hat;go_wp2_with fail;have hc:=l4end_any s ka la xa kc lc xn xc 4 wr;obtain⟨s2,hs2⟩:∃s2,s.fin 4=s2:=⟨_,rfl⟩;have HS2:Hid (s.fin 4=s2):=hs2;rw[hs2]at hc;unfold stV at hc;rw[HDN.out]at hc;refine hc.mono ?_;clear hc hs2;rintro e W ⟨rfl,hb⟩;have hbx:=(hb.block _ lw1).trans HR.out.box;have lwW:w.heap.size+1<W.heap.size:=Nat.lt_of_lt_of_le lw1 hb.size;replace z0:W.cell? ⟨w.heap.size+1,0,none⟩=some (.int .i64 s.at_):=blk_cell (j:=0) hbx rfl;replace p0:=blk_frz (j:=0) hbx;replace z1:W.cell? ⟨w.heap.size+1,1,none⟩=some (.int .i64 (s.pos:Int)):=blk_cell (j:=1) hbx rfl;replace p1:=blk_frz (j:=1) hbx;replace z2:W.cell? ⟨w.heap.size+1,2,none⟩=some (.slice ka s.st.length kc):=blk_cell (j:=2) hbx rfl;replace p2:=blk_frz (j:=2) hbx;replace z3:W.cell? ⟨w.heap.size+1,3,none⟩=some (.slice la s.log.length lc):=blk_cell (j:=3) hbx rfl;replace p3:=blk_frz (j:=3) hbx;replace z4:W.cell? ⟨w.heap.size+1,4,none⟩=some (.int .i64 (s.far:Int)):=blk_cell (j:=4) hbx rfl;replace p4:=blk_frz (j:=4) hbx;replace z5:W.cell? ⟨w.heap.size+1,5,none⟩=some (.slice xa xn xc):=blk_cell (j:=5) hbx rfl;replace p5:=blk_frz (j:=5) hbx;replace z6:W.cell? ⟨w.heap.size+1,6,none⟩=some (.int .i64 (s.steps:Int)):=blk_cell (j:=6) hbx rfl;replace p6:=blk_frz (j:=6) hbx;replace z7:W.cell? ⟨w.heap.size+1,7,none⟩=some (.int .i64 (s.throws:Int)):=blk_cell (j:=7) hbx rfl;replace p7:=blk_frz (j:=7) hbx;replace z8:W.cell? ⟨w.heap.size+1,8,none⟩=some (.bool false):=(blk_cell (j:=8) (v:=.bool s.done) hbx rfl).trans (by rw[HDN.out])
                replace p8:=blk_frz (j:=8) hbx;replace z9:W.cell? ⟨w.heap.size+1,9,none⟩=some (.int .i64 s.code):=blk_cell (j:=9) hbx rfl;replace p9:=blk_frz (j:=9) hbx;replace z10:W.cell? ⟨w.heap.size+1,10,none⟩=some (.int .i64 s.label):=blk_cell (j:=10) hbx rfl;replace p10:=blk_frz (j:=10) hbx;have HBW:Hid (Below wr.heap.size wr W):=hb;have HBX2:Hid (W.heap[w.heap.size+1]? = some (.cells (stArr s ka kc la lc xa xn xc) 55)):=hbx;have HST:Hid (∀W',Only (fun b=>b=w.heap.size+1) W W'→W'.heap[w.heap.size+1]? = some (.cells (stArr s2 ka kc la lc xa xn xc) 55)→ruI w t k R il I fuel most W'∧2*(fuel.toNat-stAt W' (w.heap.size+1))+doAt W' (w.heap.size+1)<2*(fuel.toNat-stAt wr (w.heap.size+1))+doAt wr (w.heap.size+1)):=fun W' h1 h2 =>
                  ru_next HR.out HDN.out (HNX.out.trans HS2.out) (Only.refl _ wr) (Kept.of HBW.out) h1 ((HR.out.a.on (fun b hb=>HBW.out.block b (HR.out.a.lt b hb)) HBW.out.size).same (by rw[←HS2.out];rfl) (by rw[←HS2.out];rfl) (by rw[←HS2.out];rfl)) (fun b hb=>.inl hb) (fun b hb=>.inl hb) (fun b hb=>.inl hb) h2 (by rw[←HS2.out];exact HR.out.thr)
                clear hb hbx;go_wp2;go_roundw
                case rel =>
                  refine (HST.out _ ?_ ?_).1
                  · exact set11_only _ _ _ _ _ _ _ _ _ _ _ _ _
                  · exact set11_box _ _ _ _ _ _ _ _ _ _ _ HBX2.out
                case measure =>
                  refine (HST.out _ ?_ ?_).2
                  · exact set11_only _ _ _ _ _ _ _ _ _ _ _ _ _
                  · exact set11_box _ _ _ _ _ _ _ _ _ _ _ HBX2.out
            · have ha0:¬s.at_<0:=fun q=>hat (.inl q)
              have ha1:¬(k:Int)≤s.at_:=fun q=>hat (.inr q)
              have da0:decide (s.at_<0)=false:=by simpa using ha0
              have da1:decide ((k:Int)≤s.at_)=false:=by simpa using ha1
              by_cases hfu:(s.steps:Int)=fuel
              · have HNX:Hid (s.next k R il I fuel most=s.fin 3):=by show _=_;unfold MSt.next;rw[if_neg hat,if_pos hfu]
                have dfu:((s.steps:Int)==fuel)=true:=by simpa using hfu
                clear hat hfu;go_wp2_with fail;have hc:=l4end_any s ka la xa kc lc xn xc 3 wr;obtain⟨s2,hs2⟩:∃s2,s.fin 3=s2:=⟨_,rfl⟩;have HS2:Hid (s.fin 3=s2):=hs2;rw[hs2]at hc;unfold stV at hc;rw[HDN.out]at hc;refine hc.mono ?_;clear hc hs2;rintro e W ⟨rfl,hb⟩;have hbx:=(hb.block _ lw1).trans HR.out.box;have lwW:w.heap.size+1<W.heap.size:=Nat.lt_of_lt_of_le lw1 hb.size;replace z0:W.cell? ⟨w.heap.size+1,0,none⟩=some (.int .i64 s.at_):=blk_cell (j:=0) hbx rfl;replace p0:=blk_frz (j:=0) hbx;replace z1:W.cell? ⟨w.heap.size+1,1,none⟩=some (.int .i64 (s.pos:Int)):=blk_cell (j:=1) hbx rfl;replace p1:=blk_frz (j:=1) hbx;replace z2:W.cell? ⟨w.heap.size+1,2,none⟩=some (.slice ka s.st.length kc):=blk_cell (j:=2) hbx rfl;replace p2:=blk_frz (j:=2) hbx;replace z3:W.cell? ⟨w.heap.size+1,3,none⟩=some (.slice la s.log.length lc):=blk_cell (j:=3) hbx rfl;replace p3:=blk_frz (j:=3) hbx;replace z4:W.cell? ⟨w.heap.size+1,4,none⟩=some (.int .i64 (s.far:Int)):=blk_cell (j:=4) hbx rfl;replace p4:=blk_frz (j:=4) hbx;replace z5:W.cell? ⟨w.heap.size+1,5,none⟩=some (.slice xa xn xc):=blk_cell (j:=5) hbx rfl;replace p5:=blk_frz (j:=5) hbx;replace z6:W.cell? ⟨w.heap.size+1,6,none⟩=some (.int .i64 (s.steps:Int)):=blk_cell (j:=6) hbx rfl;replace p6:=blk_frz (j:=6) hbx;replace z7:W.cell? ⟨w.heap.size+1,7,none⟩=some (.int .i64 (s.throws:Int)):=blk_cell (j:=7) hbx rfl;replace p7:=blk_frz (j:=7) hbx;replace z8:W.cell? ⟨w.heap.size+1,8,none⟩=some (.bool false):=(blk_cell (j:=8) (v:=.bool s.done) hbx rfl).trans (by rw[HDN.out])
                replace p8:=blk_frz (j:=8) hbx;replace z9:W.cell? ⟨w.heap.size+1,9,none⟩=some (.int .i64 s.code):=blk_cell (j:=9) hbx rfl;replace p9:=blk_frz (j:=9) hbx;replace z10:W.cell? ⟨w.heap.size+1,10,none⟩=some (.int .i64 s.label):=blk_cell (j:=10) hbx rfl;replace p10:=blk_frz (j:=10) hbx;have HBW:Hid (Below wr.heap.size wr W):=hb;have HBX2:Hid (W.heap[w.heap.size+1]? = some (.cells (stArr s ka kc la lc xa xn xc) 55)):=hbx;have HST:Hid (∀W',Only (fun b=>b=w.heap.size+1) W W'→W'.heap[w.heap.size+1]? = some (.cells (stArr s2 ka kc la lc xa xn xc) 55)→ruI w t k R il I fuel most W'∧2*(fuel.toNat-stAt W' (w.heap.size+1))+doAt W' (w.heap.size+1)<2*(fuel.toNat-stAt wr (w.heap.size+1))+doAt wr (w.heap.size+1)):=fun W' h1 h2 =>
                  ru_next HR.out HDN.out (HNX.out.trans HS2.out) (Only.refl _ wr) (Kept.of HBW.out) h1 ((HR.out.a.on (fun b hb=>HBW.out.block b (HR.out.a.lt b hb)) HBW.out.size).same (by rw[←HS2.out];rfl) (by rw[←HS2.out];rfl) (by rw[←HS2.out];rfl)) (fun b hb=>.inl hb) (fun b hb=>.inl hb) (fun b hb=>.inl hb) h2 (by rw[←HS2.out];exact HR.out.thr)
                clear hb hbx;go_wp2;go_roundw
                case rel =>
                  refine (HST.out _ ?_ ?_).1
                  · exact set11_only _ _ _ _ _ _ _ _ _ _ _ _ _
                  · exact set11_box _ _ _ _ _ _ _ _ _ _ _ HBX2.out
                case measure =>
                  refine (HST.out _ ?_ ?_).2
                  · exact set11_only _ _ _ _ _ _ _ _ _ _ _ _ _
                  · exact set11_box _ _ _ _ _ _ _ _ _ _ _ HBX2.out
              · have HNX:Hid (s.next k R il I fuel most=({ s with steps:=s.steps+1 }).act (R s.at_.toNat) il I most):=by show _=_;unfold MSt.next;rw[if_neg hat,if_neg hfu]
                have dfu:((s.steps:Int)==fuel)=false:=by simpa using hfu
                clear hat hfu;obtain⟨q,hq⟩:∃q:Nat,s.at_=(q:Int):=⟨s.at_.toNat,by omega⟩
                have hqk:q<k:=by omega
                rcases HA.out with h0 | ⟨b,off,rfl,hqq,hA⟩
                · omega
                obtain⟨c0,c1,c2,sa,sc,c3,hs⟩:=hA q hqk;have lb0:b<w.heap.size:=lt_of_cell c0;have HBL:Hid (Below w.heap.size w wr):=HR.out.bel;have lbw:b<wr.heap.size:=by omega
                replace c0:=cell_on c0 HBL.out;replace c1:=cell_on c1 HBL.out;replace c2:=cell_on c2 HBL.out;replace c3:=cell_on c3 HBL.out;obtain⟨x,hx⟩:∃x,R q=x:=⟨_,rfl⟩;rw[hx]at c0 c1 c2 c3 hs;have hslx:x.sl≤1048576:=by rw[←hx];exact HSL.out q hqk
                have HXS2:Hid (Ints Q .i64 w sa x.sl x.set):=hs;obtain⟨s2,hs2⟩:∃s2,({ s with steps:=s.steps+1 }:MSt).act x il I most=s2:=⟨_,rfl⟩
                have HS2:Hid (({ s with steps:=s.steps+1 }:MSt).act x il I most=s2):=hs2
                have HN2:Hid (s.next k R il I fuel most=s2):=by show _=_;rw[HNX.out,show s.at_.toNat=q by omega,hx];exact hs2
                have hTH:Hid (s2.throws≤s2.steps):=by
                  show s2.throws≤s2.steps;have h1:=act_throws (most:=most) (s:={ s with steps:=s.steps+1 }) x il I
                  have h2:=act_steps (most:=most) (s:={ s with steps:=s.steps+1 }) x il I
                  rw[hs2]at h1 h2;have h3:=HR.out.thr;have h4:s2.throws≤s.throws+1:=h1;have h5:s2.steps=s.steps+1:=h2;omega
                have hZ:Only (fun b=>b=w.heap.size+1) wr (wr.setCell ⟨w.heap.size+1,6,none⟩ (.int .i64 ((s.steps:Int)+1))):=Only.set (P:=fun b=>b=w.heap.size+1) (Only.refl _ wr) (w.heap.size+1) 6 _ rfl
                have hYB:(wr.setCell ⟨w.heap.size+1,6,none⟩ (.int .i64 ((s.steps:Int)+1))).heap[w.heap.size+1]? = some (.cells #[.int .i64 s.at_,.int .i64 (s.pos:Int),.slice ka s.st.length kc,.slice la s.log.length lc,.int .i64 (s.far:Int),.slice xa xn xc,.int .i64 ((s.steps:Int)+1),.int .i64 (s.throws:Int),.bool false,.int .i64 s.code,.int .i64 s.label] 55):=by
                  have e:=blk_set (j:=6) (.int .i64 ((s.steps:Int)+1)) HR.out.box;unfold stArr at e;simp only[List.setIfInBounds_toArray,List.set_cons_zero,List.set_cons_succ,HDN.out]at e;exact e
                have HPY:Hid (Pre4 K L X (wr.setCell ⟨w.heap.size+1,6,none⟩ (.int .i64 ((s.steps:Int)+1))).drew { s with steps:=s.steps+1 } ka kc la lc xa xn):=by
                  have hg:=HR.out.good;have hlg:=hg.logs;have hln:=hg.len;have hth:=HR.out.thr;refine⟨(SpA.same (s:=s) (HR.out.a.on (w':=(wr.setCell ⟨w.heap.size+1,6,none⟩ (.int .i64 ((s.steps:Int)+1))).drew) (fun b hb=>hZ.block b (fun e=>by have:=HR.out.lo b hb;omega)) (by show _≤(wr.setCell _ _).heap.size;rw[size_set];exact Nat.le_refl _)) rfl rfl rfl),by show s.st.length≤1000;omega,by show s.log.length≤1048576;omega,hg.last,by show 0≤s.at_;omega,by show s.at_≤1048576;omega,by show s.throws≤1048576;omega⟩
                have HBD:Hid (Below w.heap.size w (wr.setCell ⟨w.heap.size+1,6,none⟩ (.int .i64 ((s.steps:Int)+1))).drew):=(bel_set HBL.out _ _ _ (by omega)).drew
                have y0:=cell_setB (c:=w.heap.size+1) (j:=6) (u:=.int .i64 ((s.steps:Int)+1)) (by omega) c0
                have y1:=cell_setB (c:=w.heap.size+1) (j:=6) (u:=.int .i64 ((s.steps:Int)+1)) (by omega) c1
                have y2:=cell_setB (c:=w.heap.size+1) (j:=6) (u:=.int .i64 ((s.steps:Int)+1)) (by omega) c2
                have y3:=cell_setB (c:=w.heap.size+1) (j:=6) (u:=.int .i64 ((s.steps:Int)+1)) (by omega) c3
                have HZZ:Hid (Only (fun b=>b=w.heap.size+1) wr (wr.setCell ⟨w.heap.size+1,6,none⟩ (.int .i64 ((s.steps:Int)+1))).drew):=hZ.drew
                have HYB:Hid ((wr.setCell ⟨w.heap.size+1,6,none⟩ (.int .i64 ((s.steps:Int)+1))).heap[w.heap.size+1]? = some (.cells #[.int .i64 s.at_,.int .i64 (s.pos:Int),.slice ka s.st.length kc,.slice la s.log.length lc,.int .i64 (s.far:Int),.slice xa xn xc,.int .i64 ((s.steps:Int)+1),.int .i64 (s.throws:Int),.bool false,.int .i64 s.code,.int .i64 s.label] 55)):=hYB;have t0:(wr.setCell ⟨w.heap.size+1,6,none⟩ (.int .i64 ((s.steps:Int)+1))).cell? ⟨w.heap.size+1,0,none⟩=some (.int .i64 s.at_):=blk_cell (j:=0) hYB rfl;have t1:(wr.setCell ⟨w.heap.size+1,6,none⟩ (.int .i64 ((s.steps:Int)+1))).cell? ⟨w.heap.size+1,1,none⟩=some (.int .i64 (s.pos:Int)):=blk_cell (j:=1) hYB rfl;have t2:(wr.setCell ⟨w.heap.size+1,6,none⟩ (.int .i64 ((s.steps:Int)+1))).cell? ⟨w.heap.size+1,2,none⟩=some (.slice ka s.st.length kc):=blk_cell (j:=2) hYB rfl;have t3:(wr.setCell ⟨w.heap.size+1,6,none⟩ (.int .i64 ((s.steps:Int)+1))).cell? ⟨w.heap.size+1,3,none⟩=some (.slice la s.log.length lc):=blk_cell (j:=3) hYB rfl;have t4:(wr.setCell ⟨w.heap.size+1,6,none⟩ (.int .i64 ((s.steps:Int)+1))).cell? ⟨w.heap.size+1,4,none⟩=some (.int .i64 (s.far:Int)):=blk_cell (j:=4) hYB rfl;have t5:(wr.setCell ⟨w.heap.size+1,6,none⟩ (.int .i64 ((s.steps:Int)+1))).cell? ⟨w.heap.size+1,5,none⟩=some (.slice xa xn xc):=blk_cell (j:=5) hYB rfl;have t6:(wr.setCell ⟨w.heap.size+1,6,none⟩ (.int .i64 ((s.steps:Int)+1))).cell? ⟨w.heap.size+1,6,none⟩=some (.int .i64 ((s.steps:Int)+1)):=blk_cell (j:=6) hYB rfl;have t7:(wr.setCell ⟨w.heap.size+1,6,none⟩ (.int .i64 ((s.steps:Int)+1))).cell? ⟨w.heap.size+1,7,none⟩=some (.int .i64 (s.throws:Int)):=blk_cell (j:=7) hYB rfl;have t8:(wr.setCell ⟨w.heap.size+1,6,none⟩ (.int .i64 ((s.steps:Int)+1))).cell? ⟨w.heap.size+1,8,none⟩=some (.bool false):=blk_cell (j:=8) hYB rfl;have t9:(wr.setCell ⟨w.heap.size+1,6,none⟩ (.int .i64 ((s.steps:Int)+1))).cell? ⟨w.heap.size+1,9,none⟩=some (.int .i64 s.code):=blk_cell (j:=9) hYB rfl;have t10:(wr.setCell ⟨w.heap.size+1,6,none⟩ (.int .i64 ((s.steps:Int)+1))).cell? ⟨w.heap.size+1,10,none⟩=some (.int .i64 s.label):=blk_cell (j:=10) hYB rfl;have hqi:(q:Int)<(k:Int):=by omega
                have hq0:(0:Int)≤(q:Int):=by omega
                have hsb:(s.steps:Int)≤50000:=by omega
                have lwY:w.heap.size+1<(wr.setCell ⟨w.heap.size+1,6,none⟩ (.int .i64 ((s.steps:Int)+1))).heap.size:=by rw[size_set];exact lw1
                have lbY:b<(wr.setCell ⟨w.heap.size+1,6,none⟩ (.int .i64 ((s.steps:Int)+1))).heap.size:=by rw[size_set];exact lbw
                rw[hq]at z0 t0;clear hx hs2 hs hA hYB hZ c0 c1 c2 c3 ha0 ha1 da0 da1;have da0:decide ((q:Int)<0)=false:=by simp
                have da1:decide ((k:Int)≤(q:Int))=false:=by simp;omega
                have HQ:Hid (s.at_=(q:Int)):=hq;clear hq;go_wp2;generalize wr.setCell ⟨w.heap.size+1,6,none⟩ (.int .i64 ((s.steps:Int)+1))=Y at *;have hdo:=l4do_any K L X Q Q' { s with steps:=s.steps+1 } ka la xa kc lc xn xc x sa sc ia il ic I most Y.drew HPY.out (HXS2.out.later HBD.out) (HI.out.later HBD.out) HBY.out hslx hil
                rw[HS2.out]at hdo;unfold stV at hdo;simp only[HQ.out,HDN.out,Int.natCast_add,Int.natCast_one]at hdo;have HDO:Hid (Calls Tryz.prog 19 #[.agg #[.int .i64 (q:Int),.int .i64 (s.pos:Int),.slice ka s.st.length kc,.slice la s.log.length lc,.int .i64 (s.far:Int),.slice xa xn xc,.int .i64 ((s.steps:Int)+1),.int .i64 (s.throws:Int),.bool false,.int .i64 s.code,.int .i64 s.label],.agg #[.int .i64 x.kind,.int .i64 x.arg,.int .i64 x.to,.slice sa x.sl sc],.slice ia il ic,.int .i64 most] Y.drew (DoIs s2 K L X Y.drew)):=hdo;clear hdo;go_region_law (first
                  | (refine stepCall4 enterDo rfl (.tmp 66) (.tmp 71) (.tmp 72) (.tmp 73) 55 52 22 3 rfl (y1:=.agg #[.int .i64 (q:Int),.int .i64 (s.pos:Int),.slice ka s.st.length kc,.slice la s.log.length lc,.int .i64 (s.far:Int),.slice xa xn xc,.int .i64 ((s.steps:Int)+1),.int .i64 (s.throws:Int),.bool false,.int .i64 s.code,.int .i64 s.label]) (y2:=.agg #[.int .i64 x.kind,.int .i64 x.arg,.int .i64 x.to,.slice sa x.sl sc]) (y3:=.slice ia il ic) (y4:=.int .i64 most) (by simp[Act.eval,Act.put]) (by simp[Act.eval,Act.put]) (by simp[Act.eval,Act.put]) (by simp[Act.eval,Act.put]) (HDO.out.mono ?_)
                     rintro e W ⟨ka2,kc2,la2,lc2,xa2,xn2,xc2,K2,L2,X2,rfl,hA2,hK2,hL2,hX2,hk2⟩;have hbW:W.heap[w.heap.size+1]? = some (.cells #[.int .i64 s.at_,.int .i64 (s.pos:Int),.slice ka s.st.length kc,.slice la s.log.length lc,.int .i64 (s.far:Int),.slice xa xn xc,.int .i64 ((s.steps:Int)+1),.int .i64 (s.throws:Int),.bool false,.int .i64 s.code,.int .i64 s.label] 55):=(hk2.block _ lwY (fun q=>by have:=HR.out.lo _ (q.elim .inl (fun q=>.inr (.inl q)));omega)).trans HYB.out
                     have HBW:Hid _:=hbW;have HST:Hid (∀W',Only (fun b=>b=w.heap.size+1) W W'→W'.heap[w.heap.size+1]? = some (.cells (stArr s2 ka2 kc2 la2 lc2 xa2 xn2 xc2) 55)→ruI w t k R il I fuel most W'∧2*(fuel.toNat-stAt W' (w.heap.size+1))+doAt W' (w.heap.size+1)<2*(fuel.toNat-stAt wr (w.heap.size+1))+doAt wr (w.heap.size+1)):=fun W' h1 h2 =>
                       ru_next HR.out HDN.out HN2.out HZZ.out hk2 h1 hA2 hK2 hL2 hX2 h2 hTH.out
                     have r0:W.cell? ⟨w.heap.size+1,0,none⟩=some (.int .i64 s.at_):=blk_cell (j:=0) hbW rfl;have v0:=blk_frz (j:=0) hbW;have r1:W.cell? ⟨w.heap.size+1,1,none⟩=some (.int .i64 (s.pos:Int)):=blk_cell (j:=1) hbW rfl;have v1:=blk_frz (j:=1) hbW;have r2:W.cell? ⟨w.heap.size+1,2,none⟩=some (.slice ka s.st.length kc):=blk_cell (j:=2) hbW rfl;have v2:=blk_frz (j:=2) hbW;have r3:W.cell? ⟨w.heap.size+1,3,none⟩=some (.slice la s.log.length lc):=blk_cell (j:=3) hbW rfl;have v3:=blk_frz (j:=3) hbW;have r4:W.cell? ⟨w.heap.size+1,4,none⟩=some (.int .i64 (s.far:Int)):=blk_cell (j:=4) hbW rfl;have v4:=blk_frz (j:=4) hbW;have r5:W.cell? ⟨w.heap.size+1,5,none⟩=some (.slice xa xn xc):=blk_cell (j:=5) hbW rfl;have v5:=blk_frz (j:=5) hbW;have r6:W.cell? ⟨w.heap.size+1,6,none⟩=some (.int .i64 ((s.steps:Int)+1)):=blk_cell (j:=6) hbW rfl;have v6:=blk_frz (j:=6) hbW;have r7:W.cell? ⟨w.heap.size+1,7,none⟩=some (.int .i64 (s.throws:Int)):=blk_cell (j:=7) hbW rfl;have v7:=blk_frz (j:=7) hbW;have r8:W.cell? ⟨w.heap.size+1,8,none⟩=some (.bool false):=blk_cell (j:=8) hbW rfl;have v8:=blk_frz (j:=8) hbW;have r9:W.cell? ⟨w.heap.size+1,9,none⟩=some (.int .i64 s.code):=blk_cell (j:=9) hbW rfl;have v9:=blk_frz (j:=9) hbW;have r10:W.cell? ⟨w.heap.size+1,10,none⟩=some (.int .i64 s.label):=blk_cell (j:=10) hbW rfl;have v10:=blk_frz (j:=10) hbW;have lwW:w.heap.size+1<W.heap.size:=lt_of_cell r0;clear hA2 hK2 hL2 hX2 hk2 hbW;unfold stV;refine⟨_,rfl,?_⟩))
                all_goals go_goals
                all_goals go_wp2
                all_goals go_roundw
                all_goals first
                  | (refine (HST.out _ ?_ ?_).2<;>first|exact set11_only _ _ _ _ _ _ _ _ _ _ _ _ _ | exact set11_box _ _ _ _ _ _ _ _ _ _ _ HBW.out)
                  | (refine (HST.out _ ?_ ?_).1<;>first|exact set11_only _ _ _ _ _ _ _ _ _ _ _ _ _ | exact set11_box _ _ _ _ _ _ _ _ _ _ _ HBW.out)
                  | ((repeat apply Exists.intro);refine⟨(HST.out _ ?_ ?_).1,rfl⟩<;>first|exact set11_only _ _ _ _ _ _ _ _ _ _ _ _ _ | exact set11_box _ _ _ _ _ _ _ _ _ _ _ HBW.out)
          |true =>
            have HTS:Hid (t=s):=HR.out.ends.same hd;have HOO:Hid (o=outOf s):=by show _=_;rw[HOT.out,HTS.out]
            rw[hd]at z8;clear hd;have hrs:=HR.out.res;have x0:wr.cell? ⟨w.heap.size,0,none⟩=some (.int .i64 0):=blk_cell (j:=0) hrs rfl;have g0:=blk_frz (j:=0) hrs;have x1:wr.cell? ⟨w.heap.size,1,none⟩=some (.int .i64 0):=blk_cell (j:=1) hrs rfl;have g1:=blk_frz (j:=1) hrs;have x2:wr.cell? ⟨w.heap.size,2,none⟩=some (.int .i64 0):=blk_cell (j:=2) hrs rfl;have g2:=blk_frz (j:=2) hrs;have x3:wr.cell? ⟨w.heap.size,3,none⟩=some (.int .i64 0):=blk_cell (j:=3) hrs rfl;have g3:=blk_frz (j:=3) hrs;have x4:wr.cell? ⟨w.heap.size,4,none⟩=some (.slice none 0 0):=blk_cell (j:=4) hrs rfl;have g4:=blk_frz (j:=4) hrs;have x5:wr.cell? ⟨w.heap.size,5,none⟩=some (.int .i64 0):=blk_cell (j:=5) hrs rfl;have g5:=blk_frz (j:=5) hrs;have x6:wr.cell? ⟨w.heap.size,6,none⟩=some (.int .i64 0):=blk_cell (j:=6) hrs rfl;have g6:=blk_frz (j:=6) hrs;have x7:wr.cell? ⟨w.heap.size,7,none⟩=some (.slice none 0 0):=blk_cell (j:=7) hrs rfl;have g7:=blk_frz (j:=7) hrs;clear hrs;cases h4:(s.code==4) with
            |true =>
              have HO:Hid (o=outBad s.code):=by show _=_;rw[HOO.out];unfold outOf;rw[if_pos (.inl (by simpa using h4))]
              go_wp2;refine bodyPost_ret (v:=outV (outBad s.code) none 0 none 0) ?_ rfl ?_
              · unfold outV outBad
                simp[results,Tryz.f8,go_sem, *]
              · rw[HO.out]
                refine run_bad _ ?_;exact bel_set (bel_set (bel_set (bel_set (bel_set (bel_set (bel_set (bel_set (HR.out.bel) _ _ _ (Nat.le_refl _)) _ _ _ (Nat.le_refl _)) _ _ _ (Nat.le_refl _)) _ _ _ (Nat.le_refl _)) _ _ _ (Nat.le_refl _)) _ _ _ (Nat.le_refl _)) _ _ _ (Nat.le_refl _)) _ _ _ (Nat.le_refl _)
            |false =>
              cases h3:(s.code==3) with
              |true =>
                have HO:Hid (o=outBad s.code):=by show _=_;rw[HOO.out];unfold outOf;rw[if_pos (.inr (by simpa using h3))]
                go_wp2;refine bodyPost_ret (v:=outV (outBad s.code) none 0 none 0) ?_ rfl ?_
                · unfold outV outBad
                  simp[results,Tryz.f8,go_sem, *]
                · rw[HO.out]
                  refine run_bad _ ?_;exact bel_set (bel_set (bel_set (bel_set (bel_set (bel_set (bel_set (bel_set (HR.out.bel) _ _ _ (Nat.le_refl _)) _ _ _ (Nat.le_refl _)) _ _ _ (Nat.le_refl _)) _ _ _ (Nat.le_refl _)) _ _ _ (Nat.le_refl _)) _ _ _ (Nat.le_refl _)) _ _ _ (Nat.le_refl _)) _ _ _ (Nat.le_refl _)
              |false =>
                have HNB:Hid (¬(s.code=4∨s.code=3)):=by
                  show ¬_;simp at h4 h3;exact fun q=>q.elim h4 h3
                cases h0:(s.code==0) with
                |true =>
                  have HC0:Hid (s.code=0):=by show _=_;simpa using h0
                  have h2:(s.code==2)=false:=by
                      have:s.code=0:=by simpa using h0
                      rw[this];rfl
                  have HLG:Hid (∀W',Below wr.heap.size wr W'→OwnC L W' (.slice la s.log.length lc) 3 s.log.length (cellsE s.log)):=fun W' hW=>HR.out.a.log.on (fun b hb=>hW.block b (HR.out.a.lt b (.inr (.inl hb))))
                  have hll:s.log.length≤1048576:=by have:=HR.out.good.logs;omega
                  go_wp2_with (at_builtin;(refine appD rfl _ _ 34 34 rfl rfl rfl elemEv (Q:=fun _=>False) (.inl ⟨rfl,rfl,rfl⟩) (own_src (HLG.out _ (bel1 wr _))) (by omega) ?_;intro v4 W4 hown hgrew hsz4;rw[Nat.zero_add]at hown;obtain⟨a4,c4,rfl⟩:=own_shape hown;have hob:W4.heap[wr.heap.size]? = some (.cells #[.int .i64 s.code,.int .i64 (s.pos:Int),.int .i64 0,.int .i64 (s.far:Int),.slice xa xn xc,.int .i64 (s.steps:Int),.int .i64 (s.throws:Int),.slice none 0 0] 36):=(hgrew.block _ (by simp) (fun q=>q)).trans (blk_new wr _ _ rfl);have hsb4:=(hgrew.block (w.heap.size+1) (by simp;omega) (fun q=>q)).trans (blk_old HR.out.box _);have hrb4:=(hgrew.block w.heap.size (by simp;omega) (fun q=>q)).trans (blk_old HR.out.res _);have b0:W4.cell? ⟨wr.heap.size,0,none⟩=some (.int .i64 s.code):=blk_cell (j:=0) hob rfl;have n0:W4.cell? ⟨w.heap.size,0,none⟩=some (.int .i64 0):=blk_cell (j:=0) hrb4 rfl;have m0:=blk_frz (j:=0) hrb4;have b1:W4.cell? ⟨wr.heap.size,1,none⟩=some (.int .i64 (s.pos:Int)):=blk_cell (j:=1) hob rfl;have n1:W4.cell? ⟨w.heap.size,1,none⟩=some (.int .i64 0):=blk_cell (j:=1) hrb4 rfl;have m1:=blk_frz (j:=1) hrb4;have b2:W4.cell? ⟨wr.heap.size,2,none⟩=some (.int .i64 0):=blk_cell (j:=2) hob rfl;have n2:W4.cell? ⟨w.heap.size,2,none⟩=some (.int .i64 0):=blk_cell (j:=2) hrb4 rfl;have m2:=blk_frz (j:=2) hrb4;have b3:W4.cell? ⟨wr.heap.size,3,none⟩=some (.int .i64 (s.far:Int)):=blk_cell (j:=3) hob rfl;have n3:W4.cell? ⟨w.heap.size,3,none⟩=some (.int .i64 0):=blk_cell (j:=3) hrb4 rfl;have m3:=blk_frz (j:=3) hrb4;have b4:W4.cell? ⟨wr.heap.size,4,none⟩=some (.slice xa xn xc):=blk_cell (j:=4) hob rfl;have n4:W4.cell? ⟨w.heap.size,4,none⟩=some (.slice none 0 0):=blk_cell (j:=4) hrb4 rfl;have m4:=blk_frz (j:=4) hrb4;have b5:W4.cell? ⟨wr.heap.size,5,none⟩=some (.int .i64 (s.steps:Int)):=blk_cell (j:=5) hob rfl;have n5:W4.cell? ⟨w.heap.size,5,none⟩=some (.int .i64 0):=blk_cell (j:=5) hrb4 rfl;have m5:=blk_frz (j:=5) hrb4;have b6:W4.cell? ⟨wr.heap.size,6,none⟩=some (.int .i64 (s.throws:Int)):=blk_cell (j:=6) hob rfl;have n6:W4.cell? ⟨w.heap.size,6,none⟩=some (.int .i64 0):=blk_cell (j:=6) hrb4 rfl;have m6:=blk_frz (j:=6) hrb4;have b7:W4.cell? ⟨wr.heap.size,7,none⟩=some (.slice none 0 0):=blk_cell (j:=7) hob rfl;have n7:W4.cell? ⟨w.heap.size,7,none⟩=some (.slice none 0 0):=blk_cell (j:=7) hrb4 rfl;have m7:=blk_frz (j:=7) hrb4;have b7f:=blk_frz (j:=7) hob;have e9:W4.cell? ⟨w.heap.size+1,9,none⟩=some (.int .i64 s.code):=blk_cell (j:=9) hsb4 rfl;have lb4:=lt_of_cell b0;have ln4:=lt_of_cell n0;have le4:=lt_of_cell e9;have HOWN:Hid (OwnC (fun b=>False∨(wr.alloc (.cells #[.int .i64 s.code,.int .i64 (s.pos:Int),.int .i64 0,.int .i64 (s.far:Int),.slice xa xn xc,.int .i64 (s.steps:Int),.int .i64 (s.throws:Int),.slice none 0 0] 36)).heap.size≤b) W4 (.slice a4 s.log.length c4) 3 s.log.length ([]++cellsE s.log)):=hown;have HGR:Hid (Grew (fun _=>False) (wr.alloc (.cells #[.int .i64 s.code,.int .i64 (s.pos:Int),.int .i64 0,.int .i64 (s.far:Int),.slice xa xn xc,.int .i64 (s.steps:Int),.int .i64 (s.throws:Int),.slice none 0 0] 36)) W4):=hgrew;clear hown hgrew hsz4 hob hsb4 hrb4))
                  have HVO:Hid (outV (outOf s) xa xc a4 c4=.agg #[.int .i64 s.code,.int .i64 (s.pos:Int),.int .i64 0,.int .i64 (s.far:Int),.slice xa xn xc,.int .i64 (s.steps:Int),.int .i64 (s.throws:Int),.slice a4 s.log.length c4]):=by
                    show _=_;have hx:=HR.out.a.ex.1;unfold outOf;rw[if_neg HNB.out];unfold outV;generalize rg s.exp 256=l at hx ⊢;simp only[←hx,HC0.out,true_or,if_true,show ¬(0:Int)=2 from by decide,if_false]
                  have HEX:Hid ((outOf s).en=xn∧(outOf s).ex=lf (rg s.exp 256)∧(outOf s).vn=s.log.length∧(outOf s).ev=fun i=>s.log.getD i ⟨0,0,0⟩):=by
                    show _∧_;have hx:=HR.out.a.ex.1;unfold outOf;rw[if_neg HNB.out];generalize rg s.exp 256=l at hx ⊢;exact⟨hx.symm,rfl,if_pos HC0.out,rfl⟩
                  refine bodyPost_ret (v:=outV (outOf s) xa xc a4 c4) ?_ rfl ?_
                  · rw[HVO.out]
                    simp[results,Tryz.f8,go_sem, *]
                  · rw[HOO.out]
                    have hl:=late0 (W':=_) HR.out.bel HR.out.a.ex.2 (fun b hb=>HR.out.lo b (.inr (.inr hb))) (fun b hb=>HR.out.a.lt b (.inr (.inr hb))) HGR.out HOWN.out (.slice a4 s.log.length c4) (.int .i64 s.code) (.int .i64 (s.pos:Int)) (.int .i64 0) (.int .i64 (s.far:Int)) (.slice xa xn xc) (.int .i64 (s.steps:Int)) (.int .i64 (s.throws:Int)) (.slice a4 s.log.length c4) rfl
                    refine⟨xa,xc,a4,c4,rfl,⟨?_,?_⟩,?_⟩
                    · rw[HEX.out.1,HEX.out.2.1];exact hl.1
                    · rw[HEX.out.2.2.1,HEX.out.2.2.2];exact hl.2.1
                    · exact hl.2.2
                |false =>
                  have HC0:Hid (¬s.code=0):=by show ¬_;simpa using h0
                  cases h2:(s.code==2) with
                  |true =>
                    have HC2:Hid (s.code=2):=by show _=_;simpa using h2
                    have HVO:Hid (outV (outOf s) xa xc none 0=.agg #[.int .i64 s.code,.int .i64 ((s.pos:Int)),.int .i64 (s.label),.int .i64 (s.far:Int),.slice xa xn xc,.int .i64 (s.steps:Int),.int .i64 (s.throws:Int),.slice none 0 0]):=by
                      show _=_;unfold outOf;rw[if_neg HNB.out];unfold outV;first|(simp only[←HR.out.a.ex.1,HC2.out,if_true,or_true,show ¬(2:Int)=0 from by decide,if_false];done)|(simp only[←HR.out.a.ex.1,HC2.out,if_true,or_true,show ¬(2:Int)=0 from by decide,if_false];rfl)
                    have HEX:Hid ((outOf s).en=xn∧(outOf s).ex=lf (rg s.exp 256)∧(outOf s).vn=0):=by
                      show _∧_;have hx:=HR.out.a.ex.1;unfold outOf;rw[if_neg HNB.out];generalize rg s.exp 256=l at hx ⊢;exact⟨hx.symm,rfl,if_neg HC0.out⟩
                    go_wp2;refine bodyPost_ret (v:=outV (outOf s) xa xc none 0) ?_ rfl ?_
                    · rw[HVO.out]
                      simp[results,Tryz.f8,go_sem, *]
                    · rw[HOO.out]
                      refine⟨xa,xc,none,0,rfl,⟨?_,?_⟩,?_⟩
                      · rw[HEX.out.1,HEX.out.2.1]
                        exact late_ints HR.out.a.ex.2 (fun b hb=>HR.out.lo b (.inr (.inr hb))) (fun b hb=>HR.out.a.lt b (.inr (.inr hb))) _ _ _ _ _ _ _ _ _
                      · exact .inl HEX.out.2.2
                      · exact late_bel HR.out.bel _ _ _ _ _ _ _ _ _
                  |false =>
                    have HC2:Hid (¬s.code=2):=by show ¬_;simpa using h2
                    have HVO:Hid (outV (outOf s) xa xc none 0=.agg #[.int .i64 s.code,.int .i64 (0),.int .i64 (0),.int .i64 (s.far:Int),.slice xa xn xc,.int .i64 (s.steps:Int),.int .i64 (s.throws:Int),.slice none 0 0]):=by
                      show _=_;unfold outOf;rw[if_neg HNB.out];unfold outV;first|(simp only[←HR.out.a.ex.1,HC0.out,HC2.out,or_self,if_false];done)|(simp only[←HR.out.a.ex.1,HC0.out,HC2.out,or_self,if_false];rfl)
                    have HEX:Hid ((outOf s).en=xn∧(outOf s).ex=lf (rg s.exp 256)∧(outOf s).vn=0):=by
                      show _∧_;have hx:=HR.out.a.ex.1;unfold outOf;rw[if_neg HNB.out];generalize rg s.exp 256=l at hx ⊢;exact⟨hx.symm,rfl,if_neg HC0.out⟩
                    go_wp2;refine bodyPost_ret (v:=outV (outOf s) xa xc none 0) ?_ rfl ?_
                    · rw[HVO.out]
                      simp[results,Tryz.f8,go_sem, *]
                    · rw[HOO.out]
                      refine⟨xa,xc,none,0,rfl,⟨?_,?_⟩,?_⟩
                      · rw[HEX.out.1,HEX.out.2.1]
                        exact late_ints HR.out.a.ex.2 (fun b hb=>HR.out.lo b (.inr (.inr hb))) (fun b hb=>HR.out.a.lt b (.inr (.inr hb))) _ _ _ _ _ _ _ _ _
                      · exact .inl HEX.out.2.2
                      · exact late_bel HR.out.bel _ _ _ _ _ _ _ _ _
  · have HBAD:Hid (∀W,Below w.heap.size w W→RunIs o w (.returned (outV (outBad 4) none 0 none 0)) W):=fun W hW=>by
      rcases HD.out with⟨h,_⟩|⟨_,rfl⟩
      · exact absurd ⟨h.f0,h.f1,h.m0,h.m1⟩ hbd
      · exact run_bad 4 hW
    by_cases h0:fuel<0
    · have d0:decide (fuel<0)=true:=by simpa using h0
      go_enter Tryz.func8,Tryz.ntmps8;go_wp2;refine bodyPost_ret (v:=outV (outBad 4) none 0 none 0) ?_ rfl ?_
      · unfold outV outBad
        simp[results,Tryz.f8,go_sem]
      · exact HBAD.out _ (bel1 w _)
    have d0:decide (fuel<0)=false:=by simpa using h0
    by_cases h1:50000<fuel
    · have d1:decide (50000<fuel)=true:=by simpa using h1
      go_enter Tryz.func8,Tryz.ntmps8;go_wp2;refine bodyPost_ret (v:=outV (outBad 4) none 0 none 0) ?_ rfl ?_
      · unfold outV outBad
        simp[results,Tryz.f8,go_sem]
      · exact HBAD.out _ (bel1 w _)
    have d1:decide (50000<fuel)=false:=by simpa using h1
    by_cases h2:most<0
    · have d2:decide (most<0)=true:=by simpa using h2
      go_enter Tryz.func8,Tryz.ntmps8;go_wp2;refine bodyPost_ret (v:=outV (outBad 4) none 0 none 0) ?_ rfl ?_
      · unfold outV outBad
        simp[results,Tryz.f8,go_sem]
      · exact HBAD.out _ (bel1 w _)
    have d2:decide (most<0)=false:=by simpa using h2
    by_cases h3:1000<most
    · have d3:decide (1000<most)=true:=by simpa using h3
      go_enter Tryz.func8,Tryz.ntmps8;go_wp2;refine bodyPost_ret (v:=outV (outBad 4) none 0 none 0) ?_ rfl ?_
      · unfold outV outBad
        simp[results,Tryz.f8,go_sem]
      · exact HBAD.out _ (bel1 w _)
    have d3:decide (1000<most)=false:=by simpa using h3
    exact absurd ⟨by omega,by omega,by omega,by omega⟩ hbd
end
end Go.Proofs.YtcbnnfnlilbjeaaGreat
