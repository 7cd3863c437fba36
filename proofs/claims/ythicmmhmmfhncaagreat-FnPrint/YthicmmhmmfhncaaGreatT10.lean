import Derived.Test.YthicmmhmmfhncaaGreatT09
import Derived.Test.YthicmmhmmfhncaaGreatT01
import Derived.Deep.Cut
import Derived.Deep.CutRange
set_option linter.unusedVariables false
set_option linter.unusedSimpArgs false
namespace Go.Proofs.YthicmmhmmfhncaaGreat
section
open Go.RowKit
open M (OpD uj Gr)
theorem zGVar.putL{gb:Nat}{w0 w:World}{G:Nat→Nat}{rv:Value}{rs ls:List zNC}{g n c i j:Nat}{x y:zNC}{u:Value}(h:zGVar gb w0 G w rv (.slice (some ⟨g,0,none⟩) n c) rs ls)(hx:ls[i]? = some x)(hj:j<3)(hy:vC y=(vC x).set j u)(hg:zTg G w 1 g)(hn:Ints (zTg G w 2) .u8 w y.na y.d.nm.length (lf y.d.nm))(hb:BodP (zTg G w (5+2*i)) w (.slice y.ba y.d.bd.length y.bc) y.d.bd) :
    zGVar gb w0 G (w.setCell ⟨g,i*3+j,none⟩ u) rv (.slice (some ⟨g,0,none⟩) n c) rs (ls.set i y):=by
  have hne:gb≠g:=fun e=>by have h1:=hg.2;rw[←e,h.tg]at h1;omega
  have hb':(w.setCell ⟨g,i*3+j,none⟩ u).heap[gb]? = w.heap[gb]?:=Below.heap_setCell _ _ _ _ hne;exact⟨(World.cell?_of_block (a:=⟨gb,0,none⟩) hb').trans h.c0,(World.cell?_of_block (a:=⟨gb,1,none⟩) hb').trans h.c1,(World.frozen?_of_block (a:=⟨gb,0,none⟩) hb').trans h.f0,(World.frozen?_of_block (a:=⟨gb,1,none⟩) hb').trans h.f1,h.gr.putL hx hj hy hg hn hb,h.tg,by rw[ul];exact h.lt,by rw[ul];exact h.le⟩
theorem zGVar.putR{gb:Nat}{w0 w:World}{G:Nat→Nat}{lv:Value}{rs ls:List zNC}{g n c i j:Nat}{x y:zNC}{u:Value}(h:zGVar gb w0 G w (.slice (some ⟨g,0,none⟩) n c) lv rs ls)(hx:rs[i]? = some x)(hj:j<2)(hy:vF y=(vF x).set j u)(hg:zTg G w 0 g)(hn:Ints (zTg G w 2) .u8 w y.na y.d.nm.length (lf y.d.nm))(hb:BodP (zTg G w (4+2*i)) w (.slice y.ba y.d.bd.length y.bc) y.d.bd) :
    zGVar gb w0 G (w.setCell ⟨g,i*2+j,none⟩ u) (.slice (some ⟨g,0,none⟩) n c) lv (rs.set i y) ls:=by
  have hne:gb≠g:=fun e=>by have h1:=hg.2;rw[←e,h.tg]at h1;omega
  have hb':(w.setCell ⟨g,i*2+j,none⟩ u).heap[gb]? = w.heap[gb]?:=Below.heap_setCell _ _ _ _ hne;exact⟨(World.cell?_of_block (a:=⟨gb,0,none⟩) hb').trans h.c0,(World.cell?_of_block (a:=⟨gb,1,none⟩) hb').trans h.c1,(World.frozen?_of_block (a:=⟨gb,0,none⟩) hb').trans h.f0,(World.frozen?_of_block (a:=⟨gb,1,none⟩) hb').trans h.f1,h.gr.putR hx hj hy hg hn hb,h.tg,by rw[ul];exact h.lt,by rw[ul];exact h.le⟩
theorem zGVar.tagged{gb:Nat}{w0 w w':World}{G:Nat→Nat}{rv lv v:Value}{rs ls:List zNC}{D:List OpD}(h:zGVar gb w0 G w rv lv rs ls)(k:Keep (fun _=>False) w w')(hb:BodP (New w w') w' v D)(tag:Nat):zGVar gb w0 (uK G w tag) w' rv lv rs ls∧BodP (zTg (uK G w tag) w' tag) w' v D :=
  ⟨h.later k (fun _ q=>q.elim) tag,hb.wide (fun b q=>udF q)⟩
def tdI(gb:Nat)(w0 w W1:World)(rv lv:Value)(rs:List zNC)(ls0:List zNL)(iv:Value)(wr:World):Prop :=
  ∃(k:Nat) (G:Nat→Nat) (ls:List zNC),k≤ls0.length∧iv=.int .i64 (k:Int)∧zGVar gb w0 G wr rv lv rs ls∧ls.map (·.d)=vP (rs.map (·.d)) ls0 k∧Keep (fun b=>w0.heap.size≤b∧b<w.heap.size) W1 wr∧G (gb+1)=3
def tdJ(gb:Nat)(w0 w W1:World)(rv lv:Value)(rs:List zNC)(L:List zNL)(k:Nat)(z:List Int)(jv:Value)(wr:World):Prop :=
  ∃(j:Nat) (G:Nat→Nat) (ls:List zNC) (x:zNC),j≤rs.length∧jv=.int .i64 (j:Int)∧zGVar gb w0 G wr rv lv rs ls∧ls[k]? = some x∧x.d=(if ((rs.map (·.d)).take j).any (fun r=>kZ r.bd k) then ⟨z,false,[]⟩ else ⟨z,true,uf 0 0⟩)∧ls.map (·.d)=L.set k x.d∧Keep (fun b=>w0.heap.size≤b∧b<w.heap.size) W1 wr∧G (gb+1)=3
def zTwo(rb:Nat)(w:World):Prop:=w.cell? ⟨rb,0,none⟩=some (.slice none 0 0)∧w.cell? ⟨rb,1,none⟩=some (.slice none 0 0)∧w.frozen? ⟨rb,0,none⟩=false∧w.frozen? ⟨rb,1,none⟩=false
theorem zTwo.keep{rb:Nat}{w w':World}{C:Nat→Prop}(h:zTwo rb w)(k:Keep C w w')(hC:¬C rb):zTwo rb w':=by
  have hb:=k.block rb (ub h.1) hC;exact⟨(World.cell?_of_block (a:=⟨rb,0,none⟩) hb).trans h.1,(World.cell?_of_block (a:=⟨rb,1,none⟩) hb).trans h.2.1,(World.frozen?_of_block (a:=⟨rb,0,none⟩) hb).trans h.2.2.1,(World.frozen?_of_block (a:=⟨rb,1,none⟩) hb).trans h.2.2.2⟩
theorem ja(w:World){t:TypeId}:zTwo w.heap.size (w.alloc (.cells #[.slice none 0 0,.slice none 0 0] t)):=by
  have h:=udG w (t:=t);exact⟨h.c0,h.c1,h.f0,h.f1⟩
theorem ugO{gb rb:Nat}{w0 w:World}{G:Nat→Nat}{rv lv u0 u1:Value}{rs ls:List zNC}(h:zGVar gb w0 G w rv lv rs ls)(hg:G rb=3):zGrP w0 G ((w.setCell ⟨rb,0,none⟩ u0).setCell ⟨rb,1,none⟩ u1) rv lv rs ls :=
  h.gr.on (by rw[ul,ul];exact Nat.le_refl _) (fun b hb hq=>by
    have hne:b≠rb:=fun e=>hq (e▸hg)
    rw[Below.heap_setCell _ _ _ _ hne,Below.heap_setCell _ _ _ _ hne]) (fun b hb=>rfl) h.gr.new
theorem jB(rs ls:List zNL)(k:Nat):(vP rs ls k).length=ls.length:=by unfold vP;simp
theorem ul8{rs ls:List zNL}{k:Nat}{x:zNL}(h:(vP rs ls k)[k]? = some x):vP rs ls (k+1)=(vP rs ls k).set k (ueS rs k x):=by
  have hk:k<ls.length:=by have:=(List.getElem?_eq_some_iff.1 h).1;rwa [jB]at this
  have hx:ls[k]? = some x:=by
    unfold vP at h;rw[List.getElem?_mapIdx]at h;cases e:ls[k]? with
    |none=>rw[e]at h;cases h
    |some y=>rw[e]at h;simp at h;rw[h]
  apply List.ext_getElem?
  intro j;by_cases e:j=k
  · subst e
    rw[List.getElem?_set_self (by rw[jB];exact hk)]
    unfold vP;rw[List.getElem?_mapIdx,hx];simp
  · rw[List.getElem?_set_ne (by omega)]
    unfold vP;rw[List.getElem?_mapIdx,List.getElem?_mapIdx];cases ls[j]? with
    |none=>rfl
    |some y =>
      simp only[Option.map_some];by_cases e2:j<k
      · rw[if_pos (by omega),if_pos e2]
      · rw[if_neg (by omega),if_neg e2]
theorem uhV(rs ls:List zNL):vP rs ls 0=ls:=by
  apply List.ext_getElem?
  intro j;unfold vP;rw[List.getElem?_mapIdx];cases ls[j]?<;>simp
theorem udQ{w0 w:World}{G:Nat→Nat}{rv lv:Value}{rs ls:List zNC}(h:zGrP w0 G w rv lv rs ls)(hz:w0.heap.size≤w.heap.size){t:TypeId}:zGVar w.heap.size w0 (uK G w 3) (w.alloc (.cells #[rv,lv] t)) rv lv rs ls:=by
  have hb:=World.alloc_heap_new w (.cells #[rv,lv] t);refine⟨?_,?_,?_,?_,h.later (Keep.alloc (fun _=>False) _ _) (fun _ q=>q.elim) 3 hz,xz (Nat.le_refl _),by simp,by simp;omega⟩
  · simp only[World.cell?,hb];rfl
  · simp only[World.cell?,hb];rfl
  · simp only[World.frozen?,hb];rfl
  · simp only[World.frozen?,hb];rfl
theorem ul9{α:Type}{l:List α}{k:Nat}{x:α}(h:l[k]? = some x):l.set k x=l:=by
  apply List.ext_getElem?
  intro j;by_cases e:j=k
  · subst e;rw[List.getElem?_set_self (List.getElem?_eq_some_iff.1 h).1,h]
  · rw[List.getElem?_set_ne (by omega)]
def uqq(w0:World)(rv lv:Value)(rs:List zNC)(ls0:List zNL)(w:World)(e:Ending)(w':World):Prop :=
  ∃G' ls',e=.returned (.agg #[rv,lv])∧zGrP w0 G' w' rv lv rs ls'∧ls'.map (·.d)=vP (rs.map (·.d)) ls0 ls0.length∧Keep (fun b=>w0.heap.size≤b) w w'
set_option maxRecDepth 100000 in
set_option maxHeartbeats 20000000 in
theorem uhW(w0 w:World)(G:Nat→Nat)(ra la:Option Addr)(rc lc:Nat)(rs ls:List zNC)(h:zGrP w0 G w (.slice ra rs.length rc) (.slice la ls.length lc) rs ls)(hz:w0.heap.size≤w.heap.size)(hr:rs.length≤1000)(hl:ls.length≤1000)(hb:∀x∈rs,x.d.bd.length≤1048576) :
    Calls Tryz.prog 63 #[.agg #[.slice ra rs.length rc,.slice la ls.length lc]] w (uqq w0 (.slice ra rs.length rc) (.slice la ls.length lc) rs (ls.map (·.d)) w):=by
  have HB:Hid (∀x∈rs,x.d.bd.length≤1048576):=hb;obtain⟨ls0,hls0⟩:∃l,ls.map (·.d)=l:=⟨_,rfl⟩
  have hlen0:ls.length=ls0.length:=by rw[←hls0,List.length_map]
  have HIN:Hid (zGVar w.heap.size w0 (uK G w 3) (w.alloc (.cells #[.slice ra rs.length rc,.slice la ls.length lc] 26)) (.slice ra rs.length rc) (.slice la ls.length lc) rs ls):=udQ h hz;have HIN2:Hid (zGVar w.heap.size w0 (uK (uK G w 3) (w.alloc (.cells #[.slice ra rs.length rc,.slice la ls.length lc] 26)) 3) ((w.alloc (.cells #[.slice ra rs.length rc,.slice la ls.length lc] 26)).alloc (.cells #[.slice none 0 0,.slice none 0 0] 26)) (.slice ra rs.length rc) (.slice la ls.length lc) rs ls):=HIN.out.later (Keep.alloc (fun _=>False) _ _) (fun _ q=>q.elim) 3
  have HTW:Hid (zTwo (w.heap.size+1) ((w.alloc (.cells #[.slice ra rs.length rc,.slice la ls.length lc] 26)).alloc (.cells #[.slice none 0 0,.slice none 0 0] 26))):=by
    show zTwo _ _;have:=ja (w.alloc (.cells #[.slice ra rs.length rc,.slice la ls.length lc] 26)) (t:=26);simpa using this
  have HLS:Hid (ls.map (·.d)=ls0):=hls0
  have HZ:Hid (w0.heap.size≤w.heap.size):=hz;have HGW:Hid (0<ls.length→∃g,la=some ⟨g,0,none⟩∧g<w.heap.size∧w0.heap.size≤g):=fun hp=>by
    obtain⟨g,c,e,hq,_⟩:=h.labs.at_ hp;exact⟨g,by injection e,hq.1,h.new g (by rw[hq.2];omega)⟩
  have HKW:Hid (Keep (fun _=>False) w ((w.alloc (.cells #[.slice ra rs.length rc,.slice la ls.length lc] 26)).alloc (.cells #[.slice none 0 0,.slice none 0 0] 26))):=(Keep.alloc _ _ _).trans (Keep.alloc _ _ _)
  have hsz1:((w.alloc (.cells #[.slice ra rs.length rc,.slice la ls.length lc] 26)).alloc (.cells #[.slice none 0 0,.slice none 0 0] 26)).heap.size=w.heap.size+2:=by simp
  have HG3:Hid (uK (uK G w 3) (w.alloc (.cells #[.slice ra rs.length rc,.slice la ls.length lc] 26)) 3 (w.heap.size+1)=3):=xz (by simp)
  clear h hb hls0 HIN hz;generalize hm:ls.length=m at *;generalize hn:rs.length=n at *;have HNN:Hid (rs.length=n):=hn;have HMM:Hid (ls0.length=m):=hlen0.symm;rw[HLS.out];clear hm hn hlen0;go_enter Tryz.func63,Tryz.ntmps63;go_wp2_with fail;generalize (w.alloc (.cells #[.slice ra n rc,.slice la m lc] 26)).alloc (.cells #[.slice none 0 0,.slice none 0 0] 26)=W1 at *;go_loopw [3] (fun iv wr=>tdI w.heap.size w0 w W1 (.slice ra n rc) (.slice la m lc) rs ls0 iv wr) (fun iv _=>m-(intOf iv).toNat)
  case atStart=>exact⟨0,_,ls,Nat.zero_le _,rfl,HIN2.out,by rw[uhV];exact HLS.out,Keep.refl _ _,HG3.out⟩
  case round =>
    obtain⟨k,G1,ls1,hk,rfl,hg,hls1,hkeep,hg3⟩:=hrel;have c0:=hg.c0;have c1:=hg.c1;have hwl:=hkeep.size;have HG:Hid (zGVar w.heap.size w0 G1 wr (.slice ra n rc) (.slice la m lc) rs ls1):=hg;have HL1:Hid (ls1.map (·.d)=vP (rs.map (·.d)) ls0 k):=hls1
    have HKP:Hid (Keep (fun b=>w0.heap.size≤b∧b<w.heap.size) W1 wr):=hkeep
    have hlen1:ls1.length=ls0.length:=by rw[←List.length_map (f:=(·.d)),hls1,jB]
    rw[HMM.out]at hk hlen1;clear hg hls1 hkeep;by_cases hlt:k<m
    · have hlt':(k:Int)<(m:Int):=by omega
      have hx:ls1[k]? = some ls1[k]:=List.getElem?_eq_getElem (by omega)
      obtain⟨x,hxe⟩:∃y,ls1[k]=y:=⟨_,rfl⟩;rw[hxe]at hx;have HX:Hid (ls1[k]? = some x):=hx;have HT:Hid (vP (rs.map (·.d)) ls0 (k+1)=(vP (rs.map (·.d)) ls0 k).set k (ueS (rs.map (·.d)) k x.d)):=ul8 (by rw[←HL1.out,List.getElem?_map,hx];rfl)
      obtain⟨g,c,e,hgt,hgc,x0,x1,x2,fx1,fx2⟩:=HG.out.gr.labelAt hx;obtain rfl:la=some ⟨g,0,none⟩:=by injection e
      have HGT:Hid (zTg G1 wr 1 g):=hgt;have hgw:g<w.heap.size∧w0.heap.size≤g:=by
        obtain⟨g',e',h1,h2⟩:=HGW.out (by omega)
        cases e'
        exact⟨h1,h2⟩
      have hgl:=hgt.1;clear hxe hx e hgt hgc hlen1;by_cases hh:x.d.has=true
      · rw[hh]at x1
        have HE:Hid (tdI w.heap.size w0 w W1 (.slice ra n rc) (.slice (some ⟨g,0,none⟩) m lc) rs ls0 (.int .i64 ((k+1:Nat):Int)) wr):=⟨k+1,G1,ls1,by have:=HMM.out;omega,rfl,HG.out,by rw[HT.out,ueS,if_pos hh,←HL1.out,ul9 (by rw[List.getElem?_map,HX.out];rfl)],HKP.out,hg3⟩
        go_wp2;go_roundw;all_goals first|exact HE.out|(simp[intOf];omega)
      · have hh':x.d.has=false:=by simpa using hh
        rw[hh']at x1;have HGa:Hid (zGVar w.heap.size w0 G1 (wr.setCell ⟨g,k*3+1,none⟩ (.bool true)) (.slice ra n rc) (.slice (some ⟨g,0,none⟩) m lc) rs (ls1.set k ⟨⟨x.d.nm,true,x.d.bd⟩,x.na,x.nc,x.ba,x.bc⟩)):=HG.out.putL HX.out (by omega) (by simp[vC]) HGT.out (HG.out.gr.ln x (List.mem_of_getElem? HX.out)) (HG.out.gr.lb k x HX.out)
        have HKa:Hid (Keep (fun b=>w0.heap.size≤b∧b<w.heap.size) W1 (wr.setCell ⟨g,k*3+1,none⟩ (.bool true))):=HKP.out.trans (Keep.setCell _ _ _ ⟨hgw.2,hgw.1⟩)
        have fx2a:(wr.setCell ⟨g,k*3+1,none⟩ (.bool true)).frozen? ⟨g,k*3+2,none⟩=false:=by rw[World.frozen?_setCell];exact fx2
        have hgb:w.heap.size<wr.heap.size:=ub c0;have HSZ:Hid (wr.heap.size=(wr.setCell ⟨g,k*3+1,none⟩ (.bool true)).heap.size):=(ul _ _ _).symm;go_wp2_with fail;generalize hWa:wr.setCell ⟨g,k*3+1,none⟩ (.bool true)=Wa at *;have a1:=HGa.out.c1;have hxa:(ls1.set k ⟨⟨x.d.nm,true,x.d.bd⟩,x.na,x.nc,x.ba,x.bc⟩)[k]? = some ⟨⟨x.d.nm,true,x.d.bd⟩,x.na,x.nc,x.ba,x.bc⟩:=List.getElem?_set_self (List.getElem?_eq_some_iff.1 HX.out).1;obtain⟨g',c',e',hgt',_,y0,y1,y2,fy1,fy2⟩:=HGa.out.gr.labelAt hxa;obtain rfl:g=g':=by injection e' with e1;injection e1 with e1;injection e1 with e1
        have HXA:Hid ((ls1.set k ⟨⟨x.d.nm,true,x.d.bd⟩,x.na,x.nc,x.ba,x.bc⟩)[k]? = some ⟨⟨x.d.nm,true,x.d.bd⟩,x.na,x.nc,x.ba,x.bc⟩):=hxa;clear hxa e' hgt' y0 y1 x0 x1 x2 fx1 fx2 fx2a c0 c1 hWa;have hya:(ls1.set k ⟨⟨x.d.nm,true,x.d.bd⟩,x.na,x.nc,x.ba,x.bc⟩).map (·.d)=(vP (rs.map (·.d)) ls0 k).set k ⟨x.d.nm,true,x.d.bd⟩:=by rw[List.map_set,HL1.out]
        have HYA:Hid ((ls1.set k ⟨⟨x.d.nm,true,x.d.bd⟩,x.na,x.nc,x.ba,x.bc⟩).map (·.d)=(vP (rs.map (·.d)) ls0 k).set k ⟨x.d.nm,true,x.d.bd⟩):=hya
        have HG3':Hid (G1 (w.heap.size+1)=3):=hg3;have hwa:wr.heap.size=Wa.heap.size:=HSZ.out;clear hya hg3 HL1 HX HG HKP HGT;generalize hlsa:ls1.set k ⟨⟨x.d.nm,true,x.d.bd⟩,x.na,x.nc,x.ba,x.bc⟩=lsa at *;go_cut [3] from 5 to 54 (fun v wc=>v=.int .i64 (k:Int)∧tdJ w.heap.size w0 w W1 (.slice ra n rc) (.slice (some ⟨g,0,none⟩) m lc) rs (vP (rs.map (·.d)) ls0 k) k x.d.nm (.int .i64 0) wc)
        case first =>
          go_region_law
            (refine ym yu rfl (.const (.int .i64 0)) (.const (.int .i64 0)) 3 3 rfl (y1:=.int .i64 0) (y2:=.int .i64 0) rfl rfl ((uG 0 0 Wa.drew).mono ?_)
             rintro e W2 ⟨ba,bc,rfl,hbod,hkk⟩;have k2:Keep (fun _=>False) Wa W2:=(Keep.drew _ _).trans hkk
             have hb2':BodP (New Wa W2) W2 (.slice ba (uf 0 0).length bc) (uf 0 0):=hbod;obtain⟨hg2,hb2⟩:=HGa.out.tagged k2 hb2' (5+2*k);have z1:=hg2.c1;have zl:=ub z1;obtain⟨g2,c2,e2,hgt2,_,_,_,s2,_,q2⟩:=hg2.gr.labelAt HXA.out;obtain rfl:g=g2:=by injection e2 with e1;injection e1 with e1;injection e1 with e1
             have HE0:Hid (tdJ w.heap.size w0 w W1 (.slice ra n rc) (.slice (some ⟨g,0,none⟩) m lc) rs (vP (rs.map (·.d)) ls0 k) k x.d.nm (.int .i64 0) (W2.setCell ⟨g,k*3+2,none⟩ (.slice ba (uf 0 0).length bc))):=⟨0,uK G1 Wa (5+2*k),lsa.set k ⟨⟨x.d.nm,true,uf 0 0⟩,x.na,x.nc,ba,bc⟩,⟨⟨x.d.nm,true,uf 0 0⟩,x.na,x.nc,ba,bc⟩,Nat.zero_le _,rfl,hg2.putL HXA.out (by omega) (by simp[vC]) hgt2 (hg2.gr.ln ⟨⟨x.d.nm,true,x.d.bd⟩,x.na,x.nc,x.ba,x.bc⟩ (List.mem_of_getElem? HXA.out)) hb2,List.getElem?_set_self (List.getElem?_eq_some_iff.1 HXA.out).1,by simp,by rw[List.map_set,HYA.out,List.set_set],(HKa.out.trans (k2.mono (fun _ q=>q.elim))).trans (Keep.setCell _ _ _ ⟨hgw.2,hgw.1⟩),by rw[uD (by omega)];exact HG3'.out⟩
             clear hbod hkk k2 hb2' hg2 hb2 e2 hgt2;refine⟨_,rfl,?_⟩)
          all_goals go_goals
          all_goals go_wp2_with fail
          all_goals go_meet
          all_goals exact⟨rfl,HE0.out⟩
        case rest =>
          obtain⟨rfl,hj0⟩:=hcut;have HJ0:Hid (tdJ w.heap.size w0 w W1 (.slice ra n rc) (.slice (some ⟨g,0,none⟩) m lc) rs (vP (rs.map (·.d)) ls0 k) k x.d.nm (.int .i64 0) wc):=hj0
          clear hj0;go_wp2_with fail;go_loopw [4] (fun jv wx=>tdJ w.heap.size w0 w W1 (.slice ra n rc) (.slice (some ⟨g,0,none⟩) m lc) rs (vP (rs.map (·.d)) ls0 k) k x.d.nm jv wx) (fun jv _=>n-(intOf jv).toNat)
          case atStart=>exact HJ0.out
          case round =>
            obtain⟨j,G2,ls2,y,hj,rfl,hg,hy,hyd,hls2,hkeep,hg32⟩:=hrel;rw[HNN.out]at hj;have c0:=hg.c0;have c1:=hg.c1;have HG2:Hid (zGVar w.heap.size w0 G2 wr (.slice ra n rc) (.slice (some ⟨g,0,none⟩) m lc) rs ls2):=hg;have HY:Hid (ls2[k]? = some y):=hy;have HYD:Hid (y.d=(if ((rs.map (·.d)).take j).any (fun r=>kZ r.bd k) then ⟨x.d.nm,false,[]⟩ else ⟨x.d.nm,true,uf 0 0⟩)):=hyd
            have HL2:Hid (ls2.map (·.d)=(vP (rs.map (·.d)) ls0 k).set k y.d):=hls2
            have HK2:Hid (Keep (fun b=>w0.heap.size≤b∧b<w.heap.size) W1 wr):=hkeep
            have HG32:Hid (G2 (w.heap.size+1)=3):=hg32;clear hg hy hyd hls2 hkeep hg32;by_cases hjn:j<n
            · have hjn':(j:Int)<(n:Int):=by omega
              obtain⟨xr,hr1⟩:∃y,rs[j]? = some y:=⟨_,List.getElem?_eq_getElem (by have:=HNN.out;omega)⟩
              have HTK:Hid ((rs.map (·.d)).take (j+1)=(rs.map (·.d)).take j++[xr.d]):=by
                show _=_;rw[List.take_add_one,List.getElem?_map,hr1];rfl
              obtain⟨g0,c0',e0,_,_,_,r1,_,_⟩:=HG2.out.gr.ruleAt hr1;obtain rfl:ra=some ⟨g0,0,none⟩:=by injection e0
              have hops:=(HG2.out.gr.rb j xr hr1).ops;have hxl:xr.d.bd.length≤1048576:=HB.out xr (List.mem_of_getElem? hr1);have HOP:Hid (OpsA (zTg G2 wr (4+2*j)) wr xr.ba xr.d.bd.length (df xr.d.bd)):=hops;clear hr1 e0 hops;go_wp2_with fail;refine (vE _ xr.ba xr.d.bd.length xr.bc k (df xr.d.bd) wr HOP.out hxl).mono ?_;rintro e w5 ⟨⟨r,rfl,hiff⟩,rfl⟩;rw[ugy]at hiff;cases r with
              |false =>
                have hth:kZ xr.d.bd k=false:=by
                  cases ht:kZ xr.d.bd k with
                  |false=>rfl
                  |true=>exact absurd (hiff.2 ht) (by simp)
                have HE:Hid (tdJ w.heap.size w0 w W1 (.slice (some ⟨g0,0,none⟩) n rc) (.slice (some ⟨g,0,none⟩) m lc) rs (vP (rs.map (·.d)) ls0 k) k x.d.nm (.int .i64 ((j+1:Nat):Int)) wr):=⟨j+1,G2,ls2,y,by have:=HNN.out;omega,rfl,HG2.out,HY.out,by rw[HTK.out,List.any_append,HYD.out];simp[hth],HL2.out,HK2.out,HG32.out⟩
                clear hiff hth;go_wp2;go_roundw;all_goals first|exact HE.out|(simp[intOf];omega)
              |true =>
                have hth:kZ xr.d.bd k=true:=hiff.1 rfl;obtain⟨g5,c5,e5,hgt5,_,_,s1,s2,q1,q2⟩:=HG2.out.gr.labelAt HY.out;obtain rfl:g=g5:=by injection e5 with e1;injection e1 with e1;injection e1 with e1
                have hgl5:=hgt5.1;have hp1:=HG2.out.putL (y:=⟨⟨y.d.nm,false,y.d.bd⟩,y.na,y.nc,y.ba,y.bc⟩) (u:=.bool false) HY.out (show 1<3 by omega) (by simp[vC]) hgt5 (HG2.out.gr.ln y (List.mem_of_getElem? HY.out)) (HG2.out.gr.lb k y HY.out)
                have hy1:(ls2.set k ⟨⟨y.d.nm,false,y.d.bd⟩,y.na,y.nc,y.ba,y.bc⟩)[k]? = some ⟨⟨y.d.nm,false,y.d.bd⟩,y.na,y.nc,y.ba,y.bc⟩:=List.getElem?_set_self (List.getElem?_eq_some_iff.1 HY.out).1;have hgt6:zTg G2 (wr.setCell ⟨g,k*3+1,none⟩ (.bool false)) 1 g:=⟨by rw[ul];exact hgt5.1,hgt5.2⟩
                have hp2:=hp1.putL (y:=⟨⟨y.d.nm,false,[]⟩,y.na,y.nc,none,0⟩) (u:=.slice none 0 0) hy1 (show 2<3 by omega) (by simp[vC]) hgt6 (hp1.gr.ln ⟨⟨y.d.nm,false,y.d.bd⟩,y.na,y.nc,y.ba,y.bc⟩ (List.mem_of_getElem? hy1)) (udH _ _)
                have hynm:y.d.nm=x.d.nm:=by rw[HYD.out];split<;>rfl
                have HE:Hid (tdJ w.heap.size w0 w W1 (.slice (some ⟨g0,0,none⟩) n rc) (.slice (some ⟨g,0,none⟩) m lc) rs (vP (rs.map (·.d)) ls0 k) k x.d.nm (.int .i64 ((j+1:Nat):Int)) ((wr.setCell ⟨g,k*3+1,none⟩ (.bool false)).setCell ⟨g,k*3+2,none⟩ (.slice none 0 0))):=⟨j+1,G2,_,_,by have:=HNN.out;omega,rfl,hp2,List.getElem?_set_self (List.getElem?_eq_some_iff.1 hy1).1,by rw[HTK.out,List.any_append];simp[hth,hynm],by rw[List.map_set,List.map_set,HL2.out,List.set_set,List.set_set],(HK2.out.trans (Keep.setCell _ _ _ ⟨hgw.2,hgw.1⟩)).trans (Keep.setCell _ _ _ ⟨hgw.2,hgw.1⟩),HG32.out⟩
                clear hiff hth hp1 hp2 hy1 hgt6 hgt5 e5 hynm;go_wp2;go_roundw;all_goals first|exact HE.out|(simp[intOf];omega)
            · obtain rfl:j=n:=by omega
              have hall:(rs.map (·.d)).take j=rs.map (·.d):=List.take_of_length_le (by rw[List.length_map,HNN.out];exact Nat.le_refl _)
              have HE:Hid (tdI w.heap.size w0 w W1 (.slice ra j rc) (.slice (some ⟨g,0,none⟩) m lc) rs ls0 (.int .i64 ((k+1:Nat):Int)) wr):=⟨k+1,G2,ls2,by have:=HMM.out;omega,rfl,HG2.out,by rw[HT.out,HL2.out,HYD.out,hall,ueS,hh'];rfl,HK2.out,HG32.out⟩
              clear hall;go_wp2;go_roundw;all_goals first|exact HE.out|(simp[intOf];omega)
    · obtain rfl:k=m:=by omega
      have htw:zTwo (w.heap.size+1) wr:=HTW.out.keep HKP.out (fun q=>by omega)
      obtain⟨t0,t1,g0,g1⟩:=htw;have HO:Hid (zGrP w0 G1 ((wr.setCell ⟨w.heap.size+1,0,none⟩ (.slice ra n rc)).setCell ⟨w.heap.size+1,1,none⟩ (.slice la k lc)) (.slice ra n rc) (.slice la k lc) rs ls1):=ugO HG.out hg3;have HKO:Hid (Keep (fun b=>w0.heap.size≤b) w ((wr.setCell ⟨w.heap.size+1,0,none⟩ (.slice ra n rc)).setCell ⟨w.heap.size+1,1,none⟩ (.slice la k lc))):=yQ (yQ ((HKW.out.mono (fun _ q=>q.elim)).trans (HKP.out.mono (fun _ q=>q.1))) (by omega)) (by omega)
      go_wp2;refine bodyPost_ret (v:=.agg #[.slice ra n rc,.slice la k lc]) ?_ rfl ?_
      · simp[results,Tryz.f63,go_sem, *]
      · exact⟨G1,ls1,rfl,HO.out,by rw[HMM.out];exact HL1.out,HKO.out⟩
end
section
open Go.RowKit
open M (OpD uj Gr)
def kW(l:List zNL)(i:Nat):zNL:=l.getD i default
def uac(l:List zNL)(i:Nat)(D:List OpD):List zNL:=l.set i ⟨(kW l i).nm,(kW l i).has,D⟩
def ueV(t:Tp)(i:Nat)(rs ls:List zNL):(List zNL×List zNL)×Nat :=
 let k:=t.v i%5
 let a:=t.v (t.n i)%rs.length
 let b:=t.v (t.n (t.n i))%rs.length
 let j:=t.n (t.n (t.n i))
 let x:=(kW rs a).bd
 if k=0 then ((uac rs a (uw 5 x (uf 2 (b:Int))),ls),j)
 else if k=1 then ((uac rs a (uw 4 (unD 7 (uf 2 (b:Int))) x),ls),j)
 else if k=2 then ((uac rs a (unD 6 x),ls),j)
 else if k=3∧0<ls.length then
  let m:=b%ls.length
  ((uac rs a (uw 5 x (uf 3 (m:Int))),ls.set m ⟨(kW ls m).nm,true,uw 4 (uf 0 0) (uf 2 (a:Int))⟩),j)
 else ((uac rs a (uw 4 (unD 6 (ui (ur 97))) (uf 2 (b:Int))),ls),j)
def DrX(t:Tp)(R:Nat)(w0:World)(g:(List zNL×List zNL)×Nat)(w:World)(e:Ending)(w':World):Prop :=
 ∃rv lv G rs ls,e=.returned (.agg #[rv,lv])∧zGrP w0 G w' rv lv rs ls∧rs.map (·.d)=g.1.1∧ls.map (·.d)=g.1.2∧RdA t R w' g.2∧Keep (fun b=>b=R∨w0.heap.size≤b) w w'
theorem jz{l:List zNC}{i:Nat}{x:zNC}(h:l[i]? = some x):kW (l.map (·.d)) i=x.d:=by
 unfold kW;rw[List.getD_eq_getElem?_getD,List.getElem?_map,h];rfl
theorem unt{gb rb:Nat}{w0 W V:World}{G:Nat→Nat}{g n c a:Nat}{lv:Value}{rs ls:List zNC}{x:zNC}{ba:Option Addr}{bc:Nat}{D:List OpD}(h:zGVar gb w0 G W (.slice (some ⟨g,0,none⟩) n c) lv rs ls)(k:Keep (fun _=>False) W V)(hb:BodP (New W V) V (.slice ba D.length bc) D)(hx:rs[a]? = some x)(hg:zTg G W 0 g)(hrb:rb<W.heap.size∧G rb=3) :
  ∃G',zGVar gb w0 G' (V.setCell ⟨g,a*2+1,none⟩ (.slice ba D.length bc)) (.slice (some ⟨g,0,none⟩) n c) lv (rs.set a ⟨⟨x.d.nm,x.d.has,D⟩,x.na,x.nc,ba,bc⟩) ls∧G' rb=3:=by
 obtain⟨h1,h2⟩:=h.tagged k hb (4+2*a);have hz:=k.size;refine⟨_,h1.putR hx (by omega) (by simp[vF]) ⟨by have:=hg.1;omega,by rw[uD hg.1];exact hg.2⟩ (h1.gr.rn x (List.mem_of_getElem? hx)) h2,by rw[uD hrb.1];exact hrb.2⟩
theorem ulT{gb rb:Nat}{w0 W V:World}{G:Nat→Nat}{g n c a:Nat}{rv:Value}{rs ls:List zNC}{x:zNC}{ba:Option Addr}{bc:Nat}{D:List OpD}(h:zGVar gb w0 G W rv (.slice (some ⟨g,0,none⟩) n c) rs ls)(k:Keep (fun _=>False) W V)(hb:BodP (New W V) V (.slice ba D.length bc) D)(hx:ls[a]? = some x)(hg:zTg G W 1 g)(hrb:rb<W.heap.size∧G rb=3) :
  ∃G',zGVar gb w0 G' (V.setCell ⟨g,a*3+2,none⟩ (.slice ba D.length bc)) rv (.slice (some ⟨g,0,none⟩) n c) rs (ls.set a ⟨⟨x.d.nm,x.d.has,D⟩,x.na,x.nc,ba,bc⟩)∧G' rb=3:=by
 obtain⟨h1,h2⟩:=h.tagged k hb (5+2*a);have hz:=k.size;refine⟨_,h1.putL hx (by omega) (by simp[vC]) ⟨by have:=hg.1;omega,by rw[uD hg.1];exact hg.2⟩ (h1.gr.ln x (List.mem_of_getElem? hx)) h2,by rw[uD hrb.1];exact hrb.2⟩
structure LpS(t:Tp)(R:Nat)(w0 w:World)(gb:Nat)(G:Nat→Nat)(W:World)(rv lv:Value)(rs ls:List zNC)(i:Nat):Prop where
 gv:zGVar gb w0 G W rv lv rs ls
 tw:zTwo (gb+1) W
 tg:G (gb+1)=3
 rd:RdA t R W i
 kp:Keep (fun b=>b=R∨w0.heap.size≤b) w W
theorem LpS.on{t:Tp}{R:Nat}{w0 w:World}{gb:Nat}{G:Nat→Nat}{W V:World}{rv lv:Value}{rs ls:List zNC}{i j:Nat}(h:LpS t R w0 w gb G W rv lv rs ls i)(k:RdOn t R j W V)(hR:R<w0.heap.size∧w0.heap.size≤gb):LpS t R w0 w gb (uK G W 3) V rv lv rs ls j :=
 ⟨h.gv.later k.2 (fun b e=>⟨by omega,by omega⟩) 3,h.tw.keep k.2 (fun e=>by omega),by rw[uD (ub h.tw.1)];exact h.tg,k.1,h.kp.trans (k.2.mono (fun b e=>.inl e))⟩
theorem LpS.rule{t:Tp}{R:Nat}{w0 w:World}{gb:Nat}{G:Nat→Nat}{W V:World}{g n c a:Nat}{lv:Value}{rs ls:List zNC}{i:Nat}{x:zNC}{ba:Option Addr}{bc:Nat}{D:List OpD}(h:LpS t R w0 w gb G W (.slice (some ⟨g,0,none⟩) n c) lv rs ls i)(hR:R<w0.heap.size∧w0.heap.size≤gb)(k:Keep (fun _=>False) W V)(hb:BodP (New W V) V (.slice ba D.length bc) D)(hx:rs[a]? = some x)(hg:zTg G W 0 g) :
  ∃G',LpS t R w0 w gb G' (V.setCell ⟨g,a*2+1,none⟩ (.slice ba D.length bc)) (.slice (some ⟨g,0,none⟩) n c) lv (rs.set a ⟨⟨x.d.nm,x.d.has,D⟩,x.na,x.nc,ba,bc⟩) ls i:=by
 obtain⟨G',h1,h2⟩:=unt h.gv k hb hx hg ⟨ub h.tw.1,h.tg⟩;have hg0:w0.heap.size≤g:=h.gv.gr.new g (by rw[hg.2];omega)
 have hne:gb+1≠g:=fun e=>by have h3:=hg.2;rw[←e,h.tg]at h3;omega
 have hs:Keep (fun b=>b=g) V (V.setCell ⟨g,a*2+1,none⟩ (.slice ba D.length bc)):=Keep.setCell _ _ _ rfl
 exact⟨G',h1,(h.tw.keep k (fun e=>e)).keep hs hne,h2,(h.rd.keep k (fun _ e=>e.elim)).keep hs (fun b e=>by omega),(h.kp.trans (k.mono (fun _ e=>e.elim))).trans (hs.mono (fun b e=>.inr (by omega)))⟩
theorem LpS.label{t:Tp}{R:Nat}{w0 w:World}{gb:Nat}{G:Nat→Nat}{W V:World}{g n c a:Nat}{rv:Value}{rs ls:List zNC}{i:Nat}{x:zNC}{ba:Option Addr}{bc:Nat}{D:List OpD}(h:LpS t R w0 w gb G W rv (.slice (some ⟨g,0,none⟩) n c) rs ls i)(hR:R<w0.heap.size∧w0.heap.size≤gb)(k:Keep (fun _=>False) W V)(hb:BodP (New W V) V (.slice ba D.length bc) D)(hx:ls[a]? = some x)(hg:zTg G W 1 g) :
  ∃G',LpS t R w0 w gb G' (V.setCell ⟨g,a*3+2,none⟩ (.slice ba D.length bc)) rv (.slice (some ⟨g,0,none⟩) n c) rs (ls.set a ⟨⟨x.d.nm,x.d.has,D⟩,x.na,x.nc,ba,bc⟩) i:=by
 obtain⟨G',h1,h2⟩:=ulT h.gv k hb hx hg ⟨ub h.tw.1,h.tg⟩;have hg0:w0.heap.size≤g:=h.gv.gr.new g (by rw[hg.2];omega)
 have hne:gb+1≠g:=fun e=>by have h3:=hg.2;rw[←e,h.tg]at h3;omega
 have hs:Keep (fun b=>b=g) V (V.setCell ⟨g,a*3+2,none⟩ (.slice ba D.length bc)):=Keep.setCell _ _ _ rfl
 exact⟨G',h1,(h.tw.keep k (fun e=>e)).keep hs hne,h2,(h.rd.keep k (fun _ e=>e.elim)).keep hs (fun b e=>by omega),(h.kp.trans (k.mono (fun _ e=>e.elim))).trans (hs.mono (fun b e=>.inr (by omega)))⟩
theorem LpS.putL{t:Tp}{R:Nat}{w0 w:World}{gb:Nat}{G:Nat→Nat}{W:World}{g n c a j:Nat}{rv u:Value}{rs ls:List zNC}{i:Nat}{x y:zNC}(h:LpS t R w0 w gb G W rv (.slice (some ⟨g,0,none⟩) n c) rs ls i)(hR:R<w0.heap.size∧w0.heap.size≤gb)(hx:ls[a]? = some x)(hg:zTg G W 1 g)(hj:j<3)(hy:vC y=(vC x).set j u)(hn:Ints (zTg G W 2) .u8 W y.na y.d.nm.length (lf y.d.nm))(hb:BodP (zTg G W (5+2*a)) W (.slice y.ba y.d.bd.length y.bc) y.d.bd) :
  LpS t R w0 w gb G (W.setCell ⟨g,a*3+j,none⟩ u) rv (.slice (some ⟨g,0,none⟩) n c) rs (ls.set a y) i:=by
 have hg0:w0.heap.size≤g:=h.gv.gr.new g (by rw[hg.2];omega)
 have hne:gb+1≠g:=fun e=>by have h3:=hg.2;rw[←e,h.tg]at h3;omega
 have hs:Keep (fun b=>b=g) W (W.setCell ⟨g,a*3+j,none⟩ u):=Keep.setCell _ _ _ rfl
 exact⟨h.gv.putL hx hj hy hg hn hb,h.tw.keep hs hne,h.tg,h.rd.keep hs (fun b e=>by omega),h.kp.trans (hs.mono (fun b e=>.inr (by omega)))⟩
theorem LpS.putR{t:Tp}{R:Nat}{w0 w:World}{gb:Nat}{G:Nat→Nat}{W:World}{g n c a j:Nat}{lv u:Value}{rs ls:List zNC}{i:Nat}{x y:zNC}(h:LpS t R w0 w gb G W (.slice (some ⟨g,0,none⟩) n c) lv rs ls i)(hR:R<w0.heap.size∧w0.heap.size≤gb)(hx:rs[a]? = some x)(hg:zTg G W 0 g)(hj:j<2)(hy:vF y=(vF x).set j u)(hn:Ints (zTg G W 2) .u8 W y.na y.d.nm.length (lf y.d.nm))(hb:BodP (zTg G W (4+2*a)) W (.slice y.ba y.d.bd.length y.bc) y.d.bd) :
  LpS t R w0 w gb G (W.setCell ⟨g,a*2+j,none⟩ u) (.slice (some ⟨g,0,none⟩) n c) lv (rs.set a y) ls i:=by
 have hg0:w0.heap.size≤g:=h.gv.gr.new g (by rw[hg.2];omega)
 have hne:gb+1≠g:=fun e=>by have h3:=hg.2;rw[←e,h.tg]at h3;omega
 have hs:Keep (fun b=>b=g) W (W.setCell ⟨g,a*2+j,none⟩ u):=Keep.setCell _ _ _ rfl
 exact⟨h.gv.putR hx hj hy hg hn hb,h.tw.keep hs hne,h.tg,h.rd.keep hs (fun b e=>by omega),h.kp.trans (hs.mono (fun b e=>.inr (by omega)))⟩
theorem LpS.fin{t:Tp}{R:Nat}{w0 w:World}{gb:Nat}{G:Nat→Nat}{W:World}{rv lv:Value}{rs ls:List zNC}{i:Nat}{p:(List zNL×List zNL)×Nat}(h:LpS t R w0 w gb G W rv lv rs ls i)(hR:R<w0.heap.size∧w0.heap.size≤gb)(hp:((rs.map (·.d),ls.map (·.d)),i)=p):DrX t R w0 p w (.returned (.agg #[rv,lv])) ((W.setCell ⟨gb+1,0,none⟩ rv).setCell ⟨gb+1,1,none⟩ lv):=by
 subst hp;have hs:Keep (fun b=>b=gb+1) W ((W.setCell ⟨gb+1,0,none⟩ rv).setCell ⟨gb+1,1,none⟩ lv):=(Keep.setCell (C:=fun b=>b=gb+1) W ⟨gb+1,0,none⟩ rv rfl).trans (Keep.setCell (C:=fun b=>b=gb+1) _ ⟨gb+1,1,none⟩ lv rfl)
 exact⟨rv,lv,G,rs,ls,rfl,ugO h.gv h.tg,rfl,rfl,h.rd.keep hs (fun b e=>by omega),h.kp.trans (hs.mono (fun b e=>.inr (by omega)))⟩
theorem ugI{t:Tp}{R:Nat}{w0 w:World}{G:Nat→Nat}{rv lv:Value}{rs ls:List zNC}{i:Nat}(h:zGrP w0 G w rv lv rs ls)(hz:w0.heap.size≤w.heap.size)(hr:RdA t R w i)(hR:R<w0.heap.size):∃G',LpS t R w0 w w.heap.size G' ((w.alloc (.cells #[rv,lv] 26)).alloc (.cells #[.slice none 0 0,.slice none 0 0] 26)) rv lv rs ls i:=by
 have h1:=udQ h hz (t:=26);have h2:=h1.later (Keep.alloc (fun _=>False) _ (.cells #[.slice none 0 0,.slice none 0 0] 26)) (fun _ e=>e.elim) 3
 have e1:(w.alloc (.cells #[rv,lv] 26)).heap.size=w.heap.size+1:=by simp
 have t2:=ja (w.alloc (.cells #[rv,lv] 26)) (t:=26);rw[e1]at t2;have kk:Keep (fun _=>False) w ((w.alloc (.cells #[rv,lv] 26)).alloc (.cells #[.slice none 0 0,.slice none 0 0] 26)):=(Keep.alloc _ _ _).trans (Keep.alloc _ _ _)
 exact⟨_,h2,t2,xz (by omega),hr.keep kk (fun _ e=>e.elim),kk.mono (fun _ e=>e.elim)⟩
theorem qG(args:Array Value)(w:World):(callFunc 56 args).run Tryz.prog w=.ok (.enter 56 args) w:=by
 simp[callFunc,Tryz.func56,Tryz.f56,go_sem]
theorem uc8(args:Array Value)(w:World):(callFunc 58 args).run Tryz.prog w=.ok (.enter 58 args) w:=by
 simp[callFunc,Tryz.func58,Tryz.f58,go_sem]
theorem uaL(args:Array Value)(w:World):(callFunc 59 args).run Tryz.prog w=.ok (.enter 59 args) w:=by
 simp[callFunc,Tryz.func59,Tryz.f59,go_sem]
theorem uc9(args:Array Value)(w:World):(callFunc 60 args).run Tryz.prog w=.ok (.enter 60 args) w:=by
 simp[callFunc,Tryz.func60,Tryz.f60,go_sem]
theorem ufJ(args:Array Value)(w:World):(callFunc 27 args).run Tryz.prog w=.ok (.enter 27 args) w:=by
 simp[callFunc,Tryz.func27,Tryz.f27,go_sem]
end
end Go.Proofs.YthicmmhmmfhncaaGreat
