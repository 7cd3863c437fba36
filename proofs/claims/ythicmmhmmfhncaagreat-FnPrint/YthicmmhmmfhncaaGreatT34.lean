import Derived.Test.YthicmmhmmfhncaaGreatT30
import Derived.Test.YthicmmhmmfhncaaGreatT33
set_option linter.unusedVariables false
set_option linter.unusedSimpArgs false
namespace Go.Proofs.YthicmmhmmfhncaaGreat
section
open Go.RowKit
open M (OpD uj Gr)
structure BuS(w w0:World)(T:Nat→Prop)(b1 b2:Nat)(G:Nat→Nat)(wr:World)(rv lv:Value)(rs cs:List GC):Prop where
 bg:BG w0 G wr rv lv rs cs
 keep:Keep T w wr
 box:wr.heap[w.heap.size]? = some (.cells #[.map (some b1),.map (some b2)] 59)
 res:wr.heap[w.heap.size+1]? = some (.cells #[.slice none 0 0,.slice none 0 0] 26)
 var:wr.heap[w.heap.size+3]? = some (.cells #[rv,lv] 26)
 own:∀b,G b≠3→(T b∧b<w.heap.size)∨(w.heap.size+2≤b∧b≠w.heap.size+3∧b≠w.heap.size+4)
 le:w0.heap.size≤w.heap.size
theorem BuS.sz{w w0:World}{T:Nat→Prop}{b1 b2:Nat}{G:Nat→Nat}{wr:World}{rv lv:Value}{rs cs:List GC}(h:BuS w w0 T b1 b2 G wr rv lv rs cs):w.heap.size+3<wr.heap.size:=(Array.getElem?_eq_some_iff.1 h.var).1
theorem uon{w wr wr':World}{T C:Nat→Prop}(h:Keep T w wr)(k:Keep C wr wr')(hC:∀b,C b→b<w.heap.size→T b):Keep T w wr' :=
 ⟨k.os.trans h.os,k.tape.trans h.tape,k.output.trans h.output,Nat.le_trans h.size k.size,fun b hb hc=>(k.block b (Nat.lt_of_lt_of_le hb h.size) (fun q=>hc (hC b q hb))).trans (h.block b hb hc)⟩
theorem BuS.step{w w0:World}{T:Nat→Prop}{b1 b2:Nat}{G:Nat→Nat}{wr wr':World}{rv lv:Value}{rs cs:List GC}{C:Nat→Prop}(h:BuS w w0 T b1 b2 G wr rv lv rs cs)(k:Keep C wr wr')(hC:∀b,C b→G b=3∧((T b∧b<w.heap.size)∨w.heap.size+4≤b)):BuS w w0 T b1 b2 G wr' rv lv rs cs:=by
 have hs:=h.sz;refine⟨h.bg.keep k (fun b q=>(hC b q).1),uon h.keep k (fun b q hb=>by rcases (hC b q).2 with z | z;exact z.1;omega),(k.block _ (by omega) (fun q=>by rcases (hC _ q).2 with z | z<;>omega)).trans h.box,(k.block _ (by omega) (fun q=>by rcases (hC _ q).2 with z | z<;>omega)).trans h.res,(k.block _ (by omega) (fun q=>by rcases (hC _ q).2 with z | z<;>omega)).trans h.var,h.own,h.le⟩
theorem BuS.tag{w w0:World}{T:Nat→Prop}{b1 b2:Nat}{G:Nat→Nat}{wr:World}{rv lv:Value}{rs cs:List GC}(h:BuS w w0 T b1 b2 G wr rv lv rs cs)(S:Nat→Prop)(t:Nat)(hS:∀b,S b→G b=3∧w0.heap.size≤b∧((T b∧b<w.heap.size)∨(w.heap.size+5≤b))):BuS w w0 T b1 b2 (tagS G S t) wr rv lv rs cs :=
 ⟨h.bg.tag S t (fun b q=>⟨(hS b q).1,(hS b q).2.1⟩),h.keep,h.box,h.res,h.var,fun b hb=>by
  by_cases z:S b
  ·exact (hS b z).2.2.imp id (fun q=>⟨by omega,by omega,by omega⟩)
  ·rw[yo z]at hb;exact h.own b hb,h.le⟩
theorem BuS.tag3{w w0:World}{T:Nat→Prop}{b1 b2:Nat}{G:Nat→Nat}{wr:World}{rv lv:Value}{rs cs:List GC}(h:BuS w w0 T b1 b2 G wr rv lv rs cs){b:Nat}(h1:¬(T b∧b<w.heap.size))(h2:b<w.heap.size+2∨b=w.heap.size+3∨b=w.heap.size+4):G b=3:=by
 by_cases e:G b=3
 ·exact e
 ·rcases h.own b e with q | q
  ·exact absurd q h1
  ·omega
theorem BuS.setL{w w0:World}{T:Nat→Prop}{b1 b2:Nat}{G:Nat→Nat}{wr:World}{rv lv:Value}{rs cs:List GC}(h:BuS w w0 T b1 b2 G wr rv lv rs cs){i j:Nat}{x y:GC}{u:Value}(hx:cs[i]? = some x)(hj:j<3)(hy:ncL y=(ncL x).set j u)(hn:OwnC (Tg G wr (5+4*i)) wr (.slice y.na y.d.nm.length y.nc) 1 y.d.nm.length (uz .u8 (lf y.d.nm) y.d.nm.length))(hb:BodP (Tg G wr (7+4*i)) wr (.slice y.ba y.d.bd.length y.bc) y.d.bd) :
  ∃g c,lv=.slice (some ⟨g,0,none⟩) cs.length c∧g<wr.heap.size∧w.heap.size≠g∧w.heap.size+1≠g∧w.heap.size+3≠g∧BuS w w0 T b1 b2 G (wr.setCell ⟨g,i*3+j,none⟩ u) rv lv rs (cs.set i y):=by
 obtain⟨g,c,rfl,hg,hc,_⟩:=h.bg.labelAt hx;have ho:=h.own g (by rw[hg.2];omega)
 have hne:∀b,(b<w.heap.size→¬T b)→(b<w.heap.size+2∨b=w.heap.size+3)→b≠g:=fun b q1 q2 e=>by
  subst e;rcases ho with z | z
  ·exact q1 z.2 z.1
  ·omega
 have n0:=hne w.heap.size (fun q=>absurd q (by omega)) (by omega)
 have n1:=hne (w.heap.size+1) (fun q=>absurd q (by omega)) (by omega)
 have n3:=hne (w.heap.size+3) (fun q=>absurd q (by omega)) (by omega)
 refine⟨g,c,rfl,hg.1,n0,n1,n3,⟨h.bg.putL hx hj hy hg hn hb,uon h.keep (Keep.setCell (C:=fun b=>b=g) _ _ _ rfl) (fun b q hb=>by subst q;rcases ho with z | z;exact z.1;omega),(Below.heap_setCell _ _ _ _ n0).trans h.box,(Below.heap_setCell _ _ _ _ n1).trans h.res,(Below.heap_setCell _ _ _ _ n3).trans h.var,h.own,h.le⟩⟩
theorem BuS.addR{w w0:World}{T:Nat→Prop}{b1 b2:Nat}{G:Nat→Nat}{W2 W4:World}{rv lv v4:Value}{rs cs:List GC}{x:GC}(h:BuS w w0 T b1 b2 G W2 rv lv rs cs)(hn:OwnC (Tg G W2 (4+4*rs.length)) W2 (.slice x.na x.d.nm.length x.nc) 1 x.d.nm.length (uz .u8 (lf x.d.nm) x.d.nm.length))(hb:BodP (Tg G W2 (6+4*rs.length)) W2 (.slice x.ba x.d.bd.length x.bc) x.d.bd)
  (own:OwnC (fun b=>Tg G W2 0 b∨W2.heap.size≤b) W4 v4 2 (rs.length+1) (rs.flatMap ncR++ncR x)) (g4:Grew (Tg G W2 0) W2 W4) (h5:w.heap.size+5≤W2.heap.size) :
  W4.heap[w.heap.size+3]? = some (.cells #[rv,lv] 26)∧BuS w w0 T b1 b2 (ufM G W2 0) (W4.setCell ⟨w.heap.size+3,0,none⟩ v4) v4 lv (rs++[x]) cs:=by
 have hs:=h.sz;have z4:=g4.size;have hw:w0.heap.size≤W2.heap.size:=Nat.le_trans h.le h.keep.size;have n0:∀b,(b<w.heap.size→¬T b)→(b<w.heap.size+2∨b=w.heap.size+3)→b<W2.heap.size→W4.heap[b]? = W2.heap[b]?:=fun b q1 q2 q3=>g4.block b q3 (fun q=>by
  rcases h.own b (by rw[q.2];omega) with z | z
  ·exact q1 z.2 z.1
  ·omega)
 have hv:=(n0 (w.heap.size+3) (fun q=>absurd q (by omega)) (by omega) (by omega)).trans h.var
 have hbg:=h.bg.addRule hw hn hb own g4;have ht3:ufM G W2 0 (w.heap.size+3)=3:=by
  rw[vW (by omega)]
  exact h.tag3 (fun q=>by omega) (by omega)
 have hst:∀b,b≠w.heap.size+3→(W4.setCell ⟨w.heap.size+3,0,none⟩ v4).heap[b]? = W4.heap[b]?:=fun b q=>Below.heap_setCell _ _ _ _ q
 refine⟨hv,⟨hbg.on (by rw[ul];exact Nat.le_refl _) (fun b _ hg=>hst b (fun e=>hg (by rw[e];exact ht3))) (fun _ _ _=>rfl) hbg.new,?_,(hst _ (by omega)).trans ((n0 _ (fun q=>absurd q (by omega)) (by omega) (by omega)).trans h.box),(hst _ (by omega)).trans ((n0 _ (fun q=>absurd q (by omega)) (by omega) (by omega)).trans h.res),?_,fun b hb=>?_,h.le⟩⟩
 ·refine⟨g4.os.trans h.keep.os,g4.tape.trans h.keep.tape,g4.output.trans h.keep.output,by rw[ul];exact Nat.le_trans h.keep.size z4,fun b hb' hc=>(hst b (by omega)).trans ((g4.block b (by omega) (fun q=>?_)).trans (h.keep.block b hb' hc))⟩
  rcases h.own b (by rw[q.2];omega) with z | z
  ·exact hc z.1
  ·omega
 ·exact xp v4 hv
 ·by_cases e:b<W2.heap.size
  ·rw[vW e]at hb;exact h.own b hb
  ·right;omega
end
section
open Go.RowKit
open M (OpD uj Gr)
def NmT(th:List Tok):Prop:=∀t∈th,BytL t.nm∧t.nm.length≤1000000
def qW(ks:List (List Int))(th:List Tok):List (List Int):=th.foldl (fun ks t=>kU ks t.nm) ks
theorem ujw(ks:List (List Int))(th:List Tok)(t:Tok):qW ks (th++[t])=kU (qW ks th) t.nm:=by
 unfold qW;rw[List.foldl_append];rfl
theorem uk8(ks:List (List Int))(z:List Int):(kU ks z).length≤ks.length+1:=by
 unfold kU;split
 ·omega
 ·rw[List.length_append];exact Nat.le_refl _
theorem udk:∀(th:List Tok) (ks:List (List Int)),(qW ks th).length≤ks.length+th.length
 | [],ks=>Nat.le_refl _
 |t::r,ks=>by
  have h1:=udk r (kU ks t.nm);have h2:=uk8 ks t.nm;show (qW (kU ks t.nm) r).length≤_;rw[List.length_cons];omega
theorem uga:∀{th:List Tok} {ks:List (List Int)} {z:List Int},z∈qW ks th↔z∈ks∨∃t∈th,t.nm=z
 | [],ks,z=>⟨fun h=>.inl h,fun h=>h.elim id (fun ⟨t,h,_⟩=>by cases h)⟩
 |t::r,ks,z=>by
  show z∈qW (kU ks t.nm) r↔_;rw[uga,mem_addN];constructor
  ·rintro ((h | h) | ⟨t',h,e⟩)
   ·exact .inl h
   ·exact .inr ⟨t,List.mem_cons_self ..,h.symm⟩
   ·exact .inr ⟨t',List.mem_cons_of_mem _ h,e⟩
  ·rintro (h | ⟨t',h,e⟩)
   ·exact .inl (.inl h)
   ·rcases List.mem_cons.1 h with q | q
    ·exact .inl (.inr (by rw[←e,q]))
    ·exact .inr ⟨t',q,e⟩
theorem kC:∀{ls:List (List Int)} {i:Nat} {z:List Int},ls.Nodup→ls[i]? = some z→ixN ls z=i
 | [],i,z,_,h=>by simp at h
 |x::r,0,z,_,h=>by
  simp at h;subst h;simp[ixN,List.idxOf_cons]
 |x::r,i+1,z,hn,h=>by
  simp at h;obtain⟨n1,n2⟩:=List.nodup_cons.1 hn;have hne:(x==z)=false:=by
   simp;intro e;exact n1 (by rw[e];exact List.mem_of_getElem? h)
  have:=kC n2 h;unfold ixN at this ⊢;rw[List.idxOf_cons,hne,cond_false,this]
theorem uk9{th:List Tok}{k:Nat}{t:Tok}(h:th[k]? = some t):th.take (k+1)=th.take k++[t]:=by
 rw[List.take_add_one,h];rfl
def uoN(ks:List (List Int))(th:List Tok)(w:World)(e:Ending)(w':World):Prop :=
 ∃b ls,e=.returned (.map (some b))∧New w w' b∧MapN w' b ls (ixN ls)∧Asc ls∧(∀z,z∈ls↔z∈ks∨∃t∈th,t.nm=z)∧Keep (fun _=>False) w w'
def flI(ks:List (List Int))(th:List Tok)(w:World)(v:Value)(wr:World):Prop :=
 ∃k:Nat,k≤th.length∧v=.int .i64 (k:Nat)∧(∃g,MapN wr w.heap.size (qW ks (th.take k)) g)∧Keep (fun _=>False) w wr
def flJ(b:Nat)(ls:List (List Int))(w w0:World)(v:Value)(wr:World):Prop :=
 ∃k:Nat,k≤ls.length∧v=.int .i64 (k:Nat)∧(∃g,MapN wr b ls g∧∀i z,i<k→ls[i]? = some z→g z=i)∧Keep (fun _=>False) w wr∧Keep (fun x=>x=b) w0 wr
set_option maxHeartbeats 1000000 in
set_option maxRecDepth 100000 in
theorem udl(rb b2:Nat)(ta:Option Addr)(tc:Nat)(ks:List (List Int))(g0:List Int→Nat)(th:List Tok)(w:World)(hM:MapN w b2 ks g0)(c8:w.cell? ⟨rb,8,none⟩=some (.slice ta th.length tc))
  (hT:∀k t,th[k]? = some t→∃g sa sn sc,ta=some ⟨g,0,none⟩∧g<w.heap.size∧∀j,j<4→w.cell? ⟨g,k*4+j,none⟩=(tkC t (.slice sa sn sc))[j]?) (hq:NmT th) (hl:ks.length+th.length+1≤1000000) :
  Calls Tryz.prog 43 #[.pointer (some ⟨rb,0,none⟩),.map (some b2)] w (uoN ks th w):=by
 have HM:Hid (MapN w b2 ks g0):=hM;have HT:Hid (∀k t,th[k]? = some t→∃g sa sn sc,ta=some ⟨g,0,none⟩∧g<w.heap.size∧∀j,j<4→w.cell? ⟨g,k*4+j,none⟩=(tkC t (.slice sa sn sc))[j]?):=hT;have HQ:Hid (NmT th):=hq;have HL:Hid (ks.length+th.length+1≤1000000):=hl;have hthl:th.length≤1000000:=by omega
 have hrb:=ub c8;clear hM hT hq hl;go_enter Tryz.func43,Tryz.ntmps43;go_wp2_with fail;refine (ujH HM.out).mono ?_;rintro e W1 ⟨rfl,hM1,hK1⟩;have HM1:Hid (MapN W1 w.heap.size ks g0):=hM1;have HK1:Hid (Keep (fun _=>False) w W1):=hK1
 have d8:W1.cell? ⟨rb,8,none⟩=some (.slice ta th.length tc):=(hK1.cell (p:=⟨rb,8,none⟩) hrb (fun z=>z)).trans c8
 clear hM1 hK1 c8;go_wp2;go_loopw [17] (flI ks th w) (fun v _=>th.length-(intOf v).toNat)
 case atStart=>exact⟨0,Nat.zero_le _,rfl,⟨g0,HM1.out⟩,HK1.out⟩
 case round =>
  obtain⟨m,hm,rfl,⟨g1,hM2⟩,hK⟩:=hrel;have HK:Hid (Keep (fun _=>False) w wr):=hK
  have HM2:Hid (MapN wr w.heap.size (qW ks (th.take m)) g1):=hM2;clear hM2 HM1 d8;by_cases hlt:m<th.length
  ·obtain⟨q,hq⟩:∃q,th[m]? = some q:=⟨_,List.getElem?_eq_getElem hlt⟩
   obtain⟨g,sa,sn,sc,rfl,hg,hc⟩:=HT.out m q hq;have y0:wr.cell? ⟨g,m*4,none⟩=some (.int .u8 (kk q.kind)):=(hK.cell (p:=⟨g,m*4+0,none⟩) hg (fun z=>z)).trans (hc 0 (by omega))
   have y1:wr.cell? ⟨g,m*4+1,none⟩=some (.int .i64 (q.at_:Nat)):=(hK.cell (p:=⟨g,m*4+1,none⟩) hg (fun z=>z)).trans (hc 1 (by omega))
   have y2:wr.cell? ⟨g,m*4+2,none⟩=some (.string (str q.nm.length (lf q.nm))):=(hK.cell (p:=⟨g,m*4+2,none⟩) hg (fun z=>z)).trans (hc 2 (by omega))
   have y3:wr.cell? ⟨g,m*4+3,none⟩=some (.slice sa sn sc):=(hK.cell (p:=⟨g,m*4+3,none⟩) hg (fun z=>z)).trans (hc 3 (by omega))
   have hgr:g<wr.heap.size:=by have:=hK.size;omega
   have hlt':(m:Int)<(th.length:Int):=by omega
   have HZ:Hid (BytL q.nm∧q.nm.length≤1000000):=HQ.out q (List.mem_of_getElem? hq);have HLL:Hid ((qW ks (th.take m)).length+1≤1000000):=by
    have h1:=udk (th.take m) ks;have h2:=HL.out;rw[List.length_take]at h1;have h:(qW ks (th.take m)).length+1≤1000000:=by omega
    exact h
   have HMK:Hid (MapN (wr.alloc (.cells #[.int .u8 (kk q.kind),.int .i64 (q.at_:Nat),.string (str q.nm.length (lf q.nm)),.slice sa sn sc] 51)) w.heap.size (qW ks (th.take m)) g1):=HM2.out.alloc _;have HI:Hid (∀W',MapN W' w.heap.size (kU (qW ks (th.take m)) q.nm) (ub8 g1 q.nm 0)→(wr.alloc (.cells #[.int .u8 (kk q.kind),.int .i64 (q.at_:Nat),.string (str q.nm.length (lf q.nm)),.slice sa sn sc] 51)).grownBy W' (some w.heap.size)→flI ks th w (.int .i64 ((m:Int)+1)) W'):=fun W' h1 h2=>by
    refine⟨m+1,hlt,by simp,⟨ub8 g1 q.nm 0,?_⟩,jM (HK.out.trans (Keep.alloc _ _ _)) h2 (Nat.le_refl _)⟩
    rw[uk9 hq,ujw];exact h1
   clear hc hK hq;go_wp2_with (at_mapUpdate;refine unf _ rfl _ _ _ rfl w.heap.size (qW ks (th.take m)) g1 q.nm 0 rfl HMK.out rfl rfl HZ.out.1 HZ.out.2 HLL.out (by omega) ?_;intro W' hM' hg';have HI2:Hid (flI ks th w (.int .i64 ((m:Int)+1)) W'):=HI.out W' hM' hg';clear hM' hg')
   go_roundw;all_goals first
    |exact HI2.out
    | (simp[intOf];omega)
  ·have hmq:m=th.length:=by omega
   have hge:¬((m:Int)<(th.length:Int)):=by omega
   have HM3:Hid (MapN wr w.heap.size (qW ks th) g1):=by
    have h1:=HM2.out;rw[hmq,List.take_of_length_le (Nat.le_refl _)]at h1;exact h1
   clear hmq HM2 hK;obtain⟨V,hV⟩:∃x,x=wr:=⟨_,rfl⟩;subst hV;go_wp2_with fail;refine (callsIn_wide.1 (Tryz.maps_Keys_69 (some w.heap.size) V)).mono ?_;rintro e W3 ⟨rfl,hw3⟩;obtain rfl:=hw3;go_wp2_with fail;refine (uhB HM3.out).mono ?_;rintro e W4 ⟨sa,sc,ls,rfl,hp,hA,hK4,hcell⟩;have HP:Hid (ls.Perm (qW ks th)):=hp;have HA:Hid (Asc ls):=hA;have HK4:Hid (Keep (fun _=>False) w W4):=HK.out.trans hK4
   have HC:Hid (∀k z,ls[k]? = some z→∃g',sa=some ⟨g',0,none⟩∧New V W4 g'∧W4.cell? ⟨g',k,none⟩=some (.string (str z.length (lf z)))):=hcell;have HM4:Hid (MapN W4 w.heap.size ls g1):=(HM3.out.on (hK4.block _ HM3.out.lt (fun z=>z))).perm hp.symm
   have hwl:w.heap.size<V.heap.size:=HM3.out.lt;have hlsl:ls.length≤1000000:=HM4.out.len;clear hp hA hK4 hcell HM3;go_wp2;go_loopw [29] (flJ w.heap.size ls w W4) (fun v _=>ls.length-(intOf v).toNat)
   case atStart=>exact⟨0,Nat.zero_le _,rfl,⟨g1,HM4.out,fun i z h=>absurd h (by omega)⟩,HK4.out,Keep.refl _ _⟩
   case round =>
    obtain⟨n,hn,rfl,⟨g2,hM5,hix⟩,hK5,hK6⟩:=hrel;have HM5:Hid (MapN wr w.heap.size ls g2):=hM5;have HIX:Hid (∀i z,i<n→ls[i]? = some z→g2 z=i):=hix;have HK5:Hid (Keep (fun _=>False) w wr):=hK5
    have HK6:Hid (Keep (fun x=>x=w.heap.size) W4 wr):=hK6
    clear hM5 hix hK5 hK6 HM4;by_cases hln:n<ls.length
    ·obtain⟨z,hz⟩:∃z,ls[n]? = some z:=⟨_,List.getElem?_eq_getElem hln⟩
     obtain⟨g',rfl,hg',hcz⟩:=HC.out n z hz;have y0:wr.cell? ⟨g',n,none⟩=some (.string (str z.length (lf z))):=(HK6.out.cell (p:=⟨g',n,none⟩) hg'.2 (by show ¬g'=w.heap.size;have:=hg'.1;omega)).trans hcz
     have hln':(n:Int)<(ls.length:Int):=by omega
     have HZ:Hid (BytL z∧z.length≤1000000):=⟨HM5.out.byt z (List.mem_of_getElem? hz),HM5.out.sml z (List.mem_of_getElem? hz)⟩;have HLL:Hid (ls.length+1≤1000000):=by
      have h1:=HP.out.length_eq;have h2:=udk th ks;have h3:=HL.out;have h:ls.length+1≤1000000:=by omega
      exact h
     have HNL:Hid (n≤1000000):=by
      have h:n≤1000000:=by omega
      exact h
     have HI:Hid (∀W',MapN W' w.heap.size (kU ls z) (ub8 g2 z n)→wr.grownBy W' (some w.heap.size)→flJ w.heap.size ls w W4 (.int .i64 ((n:Int)+1)) W'):=fun W' h1 h2=>by
      have hmem:=List.mem_of_getElem? hz;refine⟨n+1,hln,by simp,⟨ub8 g2 z n,?_,fun i y hi hy=>?_⟩,jM HK5.out h2 (Nat.le_refl _),?_⟩
      ·unfold kU at h1
       rw[if_pos hmem]at h1;exact h1
      ·unfold ub8
       by_cases e:y=z
       ·rw[if_pos e]
        have e1:=kC HM5.out.nd hz;have e2:=kC HM5.out.nd hy;rw[e]at e2;omega
       ·rw[if_neg e]
        refine HIX.out i y ?_ hy;have:i≠n:=fun q=>e (by rw[q,hz]at hy;exact (Option.some.inj hy).symm)
        omega
      ·have k6:=HK6.out
       exact⟨h2.os.trans k6.os,h2.tape.trans k6.tape,h2.output.trans k6.output,Nat.le_trans k6.size h2.size,fun x hx hc=>(h2.block x (Nat.lt_of_lt_of_le hx k6.size) (fun q=>hc (Option.some.inj q))).trans (k6.block x hx hc)⟩
     clear hz hcz hg';go_wp2_with (at_mapUpdate;refine unf _ rfl _ _ _ rfl w.heap.size ls g2 z n rfl HM5.out rfl rfl HZ.out.1 HZ.out.2 HLL.out HNL.out ?_;intro W' hM' hg';have HI2:Hid (flJ w.heap.size ls w W4 (.int .i64 ((n:Int)+1)) W'):=HI.out W' hM' hg';clear hM' hg');go_roundw;all_goals first
      |exact HI2.out
      | (simp[intOf];omega)
    ·have hge2:¬((n:Int)<(ls.length:Int)):=by omega
     have HFI:Hid (uoN ks th w (.returned (.map (some w.heap.size))) wr):=by
      refine⟨w.heap.size,ls,rfl,⟨Nat.le_refl _,HM5.out.lt⟩,HM5.out.congr (fun z hz=>?_),HA.out,fun z=>(HP.out.mem_iff).trans uga,HK5.out⟩
      obtain⟨i,hi⟩:=List.getElem?_of_mem hz;rw[kC HM5.out.nd hi];exact HIX.out i z (by have:=(List.getElem?_eq_some_iff.1 hi).1;omega) hi
     go_wp2;go_ret;exact HFI.out
end
section
open Go.RowKit
open M (OpD uj Gr)
theorem DS.kept{rb:Nat}{t:Tx}{r:Rv}{k:Tok}{sa:Option Addr}{sc i:Nat}{l:List Tok}{qs:List Rl}{A B N D T:Nat→Prop}{w w':World}(h:DS rb t r k sa sc i l qs A B N D T w)(hk:Keep (fun _=>False) w w'):DS rb t r k sa sc i l qs A B N D T w':=by
 have hs:=hk.size;refine⟨h.st.kept hk,h.row.on (fun b q=>hk.block b (h.da b q).1 (fun z=>z)) (fun b q=>hk.block b (h.ta b q).1 (fun z=>z)) (fun b q=>q) (fun b q=>q),h.len,fun b q=>⟨by have:=(h.da b q).1;omega,(h.da b q).2⟩,fun b q=>⟨by have:=(h.ta b q).1;omega,(h.ta b q).2⟩,?_⟩
 exact vu (xf (udj h.st.txt h.tx) (fun b q=>hk.block b q.1.1 (fun z=>z))) (fun b q=>q.2)
def uqk(w:World)(v:Value)(th:List Tok):Prop:=∃ta tc,v=.slice ta th.length tc∧∀k t,th[k]? = some t→∃g sa sn sc,ta=some ⟨g,0,none⟩∧g<w.heap.size∧∀j,j<4→w.cell? ⟨g,k*4+j,none⟩=(tkC t (.slice sa sn sc))[j]?
theorem TkRow.rowT{Q:Nat→Prop}{w:World}{v:Value}{th:List Tok}(h:TkRow Q w v th)(hQ:∀b,Q b→b<w.heap.size):uqk w v th:=by
 obtain⟨cs,h1,h2⟩:=h;obtain⟨ta,tc,rfl⟩:=um h1;refine⟨ta,tc,rfl,fun k t hk=>?_⟩
 have hkl:=(List.getElem?_eq_some_iff.1 hk).1;obtain⟨g,c,e,hg,hc⟩:=uoP h1 h2.len (by omega)
 obtain⟨sa,sn,sc,h3⟩:=h2.at hk;injection e with e1 _ _
 exact⟨g,sa,sn,sc,e1,hQ g hg,fun j hj=>by rw[hc k hkl j hj];exact h3 j hj⟩
def yY(ns:List (List Int)):List Tok→Option Nat
 | []=>none
 |t::r=>if t.nm∈ns then yY ns r else some t.at_
theorem une{ns:List (List Int)}{l:List Tok}{k:Nat}{t:Tok}(h:l[k]? = some t):yY ns (l.drop k)=if t.nm∈ns then yY ns (l.drop (k+1)) else some t.at_:=by
 obtain⟨hk,e⟩:=List.getElem?_eq_some_iff.1 h;rw[List.drop_eq_getElem_cons hk,e,yY]
def uiw(n:Nat)(qs:List Rl)(p:Nat):Prop :=
 xF [] qs=some p∨(xF [] qs=none∧(yY (ue qs) (yc qs)=some p∨(yY (ue qs) (yc qs)=none∧ue qs = []∧p=n)))
def ujx(n:Nat)(qs:List Rl)(w:World)(e:Ending)(w':World):Prop :=
 Keep (fun _=>False) w w'∧((∃p:Nat,e=.panicked (flt 6 (p:Nat))∧uiw n qs p)∨(xF [] qs=none∧yY (ue qs) (yc qs)=none∧ue qs≠[]∧∃b1 b2 ls,e=.returned (.agg #[.map (some b1),.map (some b2)])∧New w w' b1∧New w w' b2∧b1≠b2∧MapN w' b1 (ue qs) (ixN (ue qs))∧MapN w' b2 ls (ixN ls)∧Asc ls∧∀z,z∈ls↔z∈uB qs∨∃t∈vK qs,t.nm=z))
def fnI(ns:List (List Int))(rf:List Tok)(b1:Nat)(W1:World)(v:Value)(wr:World):Prop :=
 ∃k:Nat,k≤rf.length∧v=.int .i64 (k:Nat)∧yY ns rf=yY ns (rf.drop k)∧Keep (fun _=>False) W1 wr
set_option maxHeartbeats 1000000 in
set_option maxRecDepth 100000 in
theorem uer(rb:Nat)(t:Tx)(r:Rv)(k:Tok)(sa:Option Addr)(sc i:Nat)(qs:List Rl)(A B N D T:Nat→Prop)(w:World)(hD:DS rb t r k sa sc i [] qs A B N D T w)(hq:NmQ qs)(hqr:NmT (yc qs))(hqt:NmT (vK qs))(hsz:qs.length+(vK qs).length+1≤1000000):Calls Tryz.prog 20 #[.pointer (some ⟨rb,0,none⟩)] w (ujx t.n qs w):=by
 have k0:Keep (fun _=>False) w (w.alloc (.cells #[.map none,.map none] 59)):=Keep.alloc _ _ _
 have HC1:Hid (Calls Tryz.prog 42 #[.pointer (some ⟨rb,0,none⟩)] (w.alloc (.cells #[.map none,.map none] 59)) (uk7 qs (w.alloc (.cells #[.map none,.map none] 59)))):=ufq rb t r k sa sc i qs A B N D T _ (hD.kept k0) hq;obtain⟨ra,rc,hv7,hrow7⟩:=hD.st.refs.rowT (fun b q=>(hD.st.apt.rows b q).1)
 obtain⟨ta,tc,hv8,hrow8⟩:=hD.st.thrs.rowT (fun b q=>(hD.st.apt.thrs b q).1)
 have c0:w.cell? ⟨rb,0,none⟩=some (.slice r.ta t.n r.tc):=ud hD.st.blk rfl;have c7:w.cell? ⟨rb,7,none⟩=some (.slice ra (yc qs).length rc):=by
  have h:w.cell? ⟨rb,7,none⟩=some r.v7:=ud hD.st.blk rfl;rw[hv7]at h;exact h
 have c8:w.cell? ⟨rb,8,none⟩=some (.slice ta (vK qs).length tc):=by
  have h:w.cell? ⟨rb,8,none⟩=some r.v8:=ud hD.st.blk rfl;rw[hv8]at h;exact h
 have hrb:=hD.st.blk.lt;have hrl:(yc qs).length≤1000000:=by have:=hD.st.big;omega
 have htn:t.n≤1000000:=hD.st.tn;have HR7:Hid (∀k t,(yc qs)[k]? = some t→∃g sa sn sc,ra=some ⟨g,0,none⟩∧g<w.heap.size∧∀j,j<4→w.cell? ⟨g,k*4+j,none⟩=(tkC t (.slice sa sn sc))[j]?):=hrow7;have HR8:Hid (∀k t,(vK qs)[k]? = some t→∃g sa sn sc,ta=some ⟨g,0,none⟩∧g<w.heap.size∧∀j,j<4→w.cell? ⟨g,k*4+j,none⟩=(tkC t (.slice sa sn sc))[j]?):=hrow8;have HQR:Hid (NmT (yc qs)):=hqr;have HQT:Hid (NmT (vK qs)):=hqt;have HSZ:Hid (qs.length+(vK qs).length+1≤1000000):=hsz;generalize hrf:yc qs=rf at *;generalize hth:vK qs=th at *;have HRF:Hid (yc qs=rf):=hrf;have HTH:Hid (vK qs=th):=hth;clear hD hv7 hv8 hrow7 hrow8 hq hqr hqt hsz k0 hrf hth;go_enter Tryz.func20,Tryz.ntmps20;go_wp2_with fail;refine HC1.out.mono ?_;rintro e W1 ⟨hk1,⟨hdup,b1,b2,rfl,hn1,hn2,hne,hM1,hM2⟩|⟨p,hdup,rfl⟩⟩
 ·have HDU:Hid (xF [] qs=none):=hdup
  have HM1:Hid (MapN W1 b1 (ue qs) (ixN (ue qs))):=hM1;have HM2:Hid (MapN W1 b2 (uB qs) (ixN (uB qs))):=hM2;have HK1:Hid (Keep (fun _=>False) w W1):=(Keep.alloc _ _ _).trans hk1
  have hres:W1.heap[w.heap.size]? = some (.cells #[.map none,.map none] 59):=(hk1.block w.heap.size (by simp) (fun z=>z)).trans (World.alloc_heap_new w _)
  have HRES:Hid (W1.heap[w.heap.size]? = some (.cells #[.map none,.map none] 59)):=hres;have HB12:Hid (w.heap.size+1≤b1∧w.heap.size+1≤b2∧b1≠b2):=⟨by have:=hn1.1;simpa using this,by have:=hn2.1;simpa using this,hne⟩
  have d0:W1.cell? ⟨rb,0,none⟩=some (.slice r.ta t.n r.tc):=(HK1.out.cell (p:=⟨rb,0,none⟩) hrb (fun z=>z)).trans c0
  have d7:W1.cell? ⟨rb,7,none⟩=some (.slice ra rf.length rc):=(HK1.out.cell (p:=⟨rb,7,none⟩) hrb (fun z=>z)).trans c7
  have d8:W1.cell? ⟨rb,8,none⟩=some (.slice ta th.length tc):=(HK1.out.cell (p:=⟨rb,8,none⟩) hrb (fun z=>z)).trans c8
  have hw1:rb<W1.heap.size:=ub d0;clear hdup hM1 hM2 hk1 hn1 hn2 hne hres c0 c7 c8 HC1;go_wp2;go_loopw [19] (fnI (ue qs) rf b1 W1) (fun v _=>rf.length-(intOf v).toNat)
  case atStart=>exact⟨0,Nat.zero_le _,rfl,rfl,Keep.refl _ _⟩
  case round =>
   obtain⟨m,hm,rfl,hE,hK⟩:=hrel;have HE:Hid (yY (ue qs) rf=yY (ue qs) (rf.drop m)):=hE;have HK:Hid (Keep (fun _=>False) W1 wr):=hK
   have HMr:Hid (MapN wr b1 (ue qs) (ixN (ue qs))):=HM1.out.on (hK.block b1 HM1.out.lt (fun z=>z))
   have HKw:Hid (Keep (fun _=>False) w wr):=HK1.out.trans hK
   by_cases hlt:m<rf.length
   ·obtain⟨q,hq⟩:∃q,rf[m]? = some q:=⟨_,List.getElem?_eq_getElem hlt⟩
    obtain⟨g,sa',sn,sc',rfl,hg,hc⟩:=HR7.out m q hq;have y0:wr.cell? ⟨g,m*4,none⟩=some (.int .u8 (kk q.kind)):=(HKw.out.cell (p:=⟨g,m*4+0,none⟩) hg (fun z=>z)).trans (hc 0 (by omega))
    have y1:wr.cell? ⟨g,m*4+1,none⟩=some (.int .i64 (q.at_:Nat)):=(HKw.out.cell (p:=⟨g,m*4+1,none⟩) hg (fun z=>z)).trans (hc 1 (by omega))
    have y2:wr.cell? ⟨g,m*4+2,none⟩=some (.string (str q.nm.length (lf q.nm))):=(HKw.out.cell (p:=⟨g,m*4+2,none⟩) hg (fun z=>z)).trans (hc 2 (by omega))
    have y3:wr.cell? ⟨g,m*4+3,none⟩=some (.slice sa' sn sc'):=(HKw.out.cell (p:=⟨g,m*4+3,none⟩) hg (fun z=>z)).trans (hc 3 (by omega))
    have hgr:g<wr.heap.size:=by have:=HKw.out.size;omega
    have hlt':(m:Int)<(rf.length:Int):=by omega
    have HZ:Hid (BytL q.nm∧q.nm.length≤1000000):=HQR.out q (List.mem_of_getElem? hq);have HST:Hid (yY (ue qs) (rf.drop m)=if q.nm∈ue qs then yY (ue qs) (rf.drop (m+1)) else some q.at_):=une hq
    have HMK:Hid (MapN (wr.alloc (.cells #[.int .u8 (kk q.kind),.int .i64 (q.at_:Nat),.string (str q.nm.length (lf q.nm)),.slice sa' sn sc'] 51)) b1 (ue qs) (ixN (ue qs))):=HMr.out.alloc _;clear hc hK hq hE d7 d8 d0;by_cases hin:q.nm∈ue qs
    ·have HBV:Hid (decide (q.nm∈ue qs)=true):=decide_eq_true hin
     have HI2:Hid (fnI (ue qs) rf b1 W1 (.int .i64 ((m:Int)+1)) (wr.alloc (.cells #[.int .u8 (kk q.kind),.int .i64 (q.at_:Nat),.string (str q.nm.length (lf q.nm)),.slice sa' sn sc'] 51))):=⟨m+1,hlt,by simp,by rw[HE.out,HST.out,if_pos hin],HK.out.trans (Keep.alloc _ _ _)⟩
     clear hin;go_wp2_with (at_lookup;refine ueH _ rfl _ _ rfl b1 (ue qs) (ixN (ue qs)) q.nm rfl HMK.out rfl HZ.out.1 HZ.out.2 true HBV.out ?_);go_roundw;all_goals first
      |exact HI2.out
      | (simp[intOf];omega)
    ·have HBV:Hid (decide (q.nm∈ue qs)=false):=decide_eq_false hin
     have HFI:Hid (ujx t.n qs w (.panicked (flt 6 (q.at_:Nat))) (wr.alloc (.cells #[.int .u8 (kk q.kind),.int .i64 (q.at_:Nat),.string (str q.nm.length (lf q.nm)),.slice sa' sn sc'] 51))):=by
      refine⟨HKw.out.trans (Keep.alloc _ _ _),.inl ⟨q.at_,rfl,.inr ⟨HDU.out,.inl ?_⟩⟩⟩;rw[HRF.out,HE.out,HST.out,if_neg hin]
     clear hin;go_wp2_with (at_lookup;refine ueH _ rfl _ _ rfl b1 (ue qs) (ixN (ue qs)) q.nm rfl HMK.out rfl HZ.out.1 HZ.out.2 false HBV.out ?_);exact⟨rfl,HFI.out⟩
   ·have hge:¬((m:Int)<(rf.length:Int)):=by omega
    have HEN:Hid (yY (ue qs) rf=none):=by
     have h:=HE.out;rw[List.drop_of_length_le (by omega)]at h
     exact h
    have z0:wr.cell? ⟨rb,0,none⟩=some (.slice r.ta t.n r.tc):=(hK.cell (p:=⟨rb,0,none⟩) hw1 (fun z=>z)).trans d0
    have z8:wr.cell? ⟨rb,8,none⟩=some (.slice ta th.length tc):=(hK.cell (p:=⟨rb,8,none⟩) hw1 (fun z=>z)).trans d8
    have HRES2:Hid (wr.heap[w.heap.size]? = some (.cells #[.map none,.map none] 59)):=(hK.block w.heap.size (Array.getElem?_eq_some_iff.1 HRES.out).1 (fun z=>z)).trans HRES.out
    have HM2r:Hid (MapN wr b2 (uB qs) (ixN (uB qs))):=HM2.out.on (hK.block b2 HM2.out.lt (fun z=>z))
    clear d0 d7 d8 hK hE;by_cases hnil:ue qs = []
    ·have HFI:Hid (ujx t.n qs w (.panicked (flt 6 (t.n:Nat))) wr):=⟨HKw.out,.inl ⟨t.n,rfl,.inr ⟨HDU.out,.inr ⟨by rw[HRF.out];exact HEN.out,hnil,rfl⟩⟩⟩⟩
     have HML:Hid (MapN wr b1 [] (ixN (ue qs))):=by
      have h:=HMr.out;rw[hnil]at h ⊢;exact h
     clear hnil;go_wp2_with (at_len;refine ulf _ rfl _ rfl b1 [] (ixN (ue qs)) rfl HML.out ?_);exact⟨rfl,HFI.out⟩
    ·have HNN:Hid (ue qs≠[]):=hnil
     obtain⟨nn,hnn⟩:∃nn,(ue qs).length=nn+1:=by
      cases h:ue qs with
      |nil=>exact absurd h hnil
      |cons x l=>exact⟨l.length,rfl⟩
     have HNN1:Hid ((ue qs).length=nn+1):=hnn;have hrl2:(uB qs).length≤qs.length:=by
      unfold uB;rw[List.length_map];exact List.length_filter_le _ _
     have HC2:Hid (Calls Tryz.prog 43 #[.pointer (some ⟨rb,0,none⟩),.map (some b2)] wr (uoN (uB qs) th wr)):=udl rb b2 ta tc (uB qs) _ th wr HM2r.out z8 (fun k t hk=>by
      obtain⟨g,s1,s2,s3,e1,e2,e3⟩:=HR8.out k t hk;exact⟨g,s1,s2,s3,e1,by have:=HKw.out.size;omega,fun j hj=>(HKw.out.cell (p:=⟨g,k*4+j,none⟩) e2 (fun z=>z)).trans (e3 j hj)⟩) HQT.out (by have:=HSZ.out;omega)
     clear hnil hnn hrl2;have hp1:¬((nn+1:Nat):Int)=0:=by omega
     have hp2:((((nn+1:Nat):Int))==0)=false:=by simp;omega
     go_wp2_with (at_len;refine ulf _ rfl _ rfl b1 (ue qs) (ixN (ue qs)) rfl HMr.out ?_;rw[HNN1.out]);refine HC2.out.mono ?_;rintro e W4 ⟨b3,ls,rfl,hn3,hM3,hA,hmem,hk4⟩;have hres:=(hk4.block w.heap.size (Array.getElem?_eq_some_iff.1 HRES2.out).1 (fun z=>z)).trans HRES2.out
     have r0:W4.cell? ⟨w.heap.size,0,none⟩=some (.map none):=ud hres rfl;have r1:W4.cell? ⟨w.heap.size,1,none⟩=some (.map none):=ud hres rfl;have f0:W4.frozen? ⟨w.heap.size,0,none⟩=false:=ut hres;have f1:W4.frozen? ⟨w.heap.size,1,none⟩=false:=ut hres;have HFI:Hid (ujx t.n qs w (.returned (.agg #[.map (some b1),.map (some b3)])) ((W4.setCell ⟨w.heap.size,0,none⟩ (.map (some b1))).setCell ⟨w.heap.size,1,none⟩ (.map (some b3)))):=by
      have hb1:=HB12.out.1;have hb3:=hn3.1;have hb1l:=HMr.out.lt;have hwl:=(Array.getElem?_eq_some_iff.1 HRES2.out).1;have kk4:Keep (fun _=>False) w W4:=HKw.out.trans hk4
      have kf:Keep (fun _=>False) w ((W4.setCell ⟨w.heap.size,0,none⟩ (.map (some b1))).setCell ⟨w.heap.size,1,none⟩ (.map (some b3))) :=
       ⟨kk4.os,kk4.tape,kk4.output,by simp only[ul];exact kk4.size,fun b hb hc=>(Below.heap_setCell _ _ _ _ (fun e=>by have e':b=w.heap.size:=e;omega)).trans ((Below.heap_setCell _ _ _ _ (fun e=>by have e':b=w.heap.size:=e;omega)).trans (kk4.block b hb hc))⟩
      have st:∀b,b≠w.heap.size→((W4.setCell ⟨w.heap.size,0,none⟩ (.map (some b1))).setCell ⟨w.heap.size,1,none⟩ (.map (some b3))).heap[b]? = W4.heap[b]?:=fun b hb=>(Below.heap_setCell _ _ _ _ hb).trans (Below.heap_setCell _ _ _ _ hb)
      refine⟨kf,.inr ⟨HDU.out,by rw[HRF.out];exact HEN.out,HNN.out,b1,b3,ls,rfl,⟨by omega,by simp only[ul];have:=hk4.size;omega⟩,⟨by omega,by simp only[ul];exact hn3.2⟩,by omega,(HMr.out.on (hk4.block b1 hb1l (fun z=>z))).on (st b1 (by omega)),hM3.on (st b3 (by omega)),hA,?_⟩⟩
      rw[HTH.out];exact hmem
     clear hn3 hM3 hA hmem hk4 hres;go_wp2;refine bodyPost_ret (v:=.agg #[.map (some b1),.map (some b3)]) ?_ rfl ?_
     ·simp[results,Tryz.f20,go_sem, *]
     ·exact HFI.out
 ·have HFI:Hid (ujx t.n qs w (.panicked (flt 6 (p:Nat))) W1):=⟨(Keep.alloc _ _ _).trans hk1,.inl ⟨p,rfl,.inl hdup⟩⟩
  clear hdup hk1;go_wp2;exact⟨rfl,HFI.out⟩
end
section
open Go.RowKit
open M (OpD uj Gr)
theorem BuS.fresh{w w0:World}{T:Nat→Prop}{b1 b2:Nat}{G:Nat→Nat}{wr:World}{rv lv:Value}{rs cs:List GC}(h:BuS w w0 T b1 b2 G wr rv lv rs cs):BuS w w0 T b1 b2 (ufM G wr 3) wr rv lv rs cs :=
 ⟨h.bg.on (Nat.le_refl _) (fun _ _ _=>rfl) (fun b hb _=>vW hb) (fun b hb=>by
  by_cases e:b<wr.heap.size
  ·rw[vW e]at hb;exact h.bg.new b hb
  ·rw[jD (by omega)]at hb;exact absurd rfl hb),h.keep,h.box,h.res,h.var,fun b hb=>by
  by_cases e:b<wr.heap.size
  ·rw[vW e]at hb;exact h.own b hb
  ·rw[jD (by omega)]at hb;exact absurd rfl hb,h.le⟩
def buI(w w0:World)(T:Nat→Prop)(b1 b2:Nat)(ls:List (List Int))(v:Value)(wr:World):Prop :=
 ∃todo cnt cs G,RgN wr b2 (w.heap.size+4) ls (ixN ls) todo cnt∧BuS w w0 T b1 b2 G wr (.slice none 0 0) (.slice (some ⟨w.heap.size+2,0,none⟩) ls.length ls.length) [] cs∧cs.length=ls.length∧w.heap.size+5≤wr.heap.size∧Keep (fun _=>False) w wr∧(∀b,b<w.heap.size→G b=3)∧∀(i:Nat) (z:List Int),ls[i]? = some z→∃x,cs[i]? = some x∧(todo z→x=gc0)∧(¬todo z→x.d=⟨z,false,[]⟩)
theorem uep{w w':World}{r:Nat}(h:w.grownBy w' (some r)):Keep (fun b=>b=r) w w':=⟨h.os,h.tape,h.output,h.size,fun b hb hc=>h.block b hb (fun q=>hc (Option.some.inj q))⟩
theorem uk1{w w0 V4:World}{T:Nat→Prop}{b1 b2:Nat}{ls:List (List Int)}(hz0:w0.heap.size≤w.heap.size)
  (hrg:RgN V4 b2 (w.heap.size+4) ls (ixN ls) (fun _=>True) ls.length)
  (hg:((((w.alloc (.cells #[.map (some b1),.map (some b2)] 59)).alloc (.cells #[.slice none 0 0,.slice none 0 0] 26)).alloc (.cells (madeCells #[.slice none 0 0,.bool false,.slice none 0 0] (ls.length*3)) 42)).alloc (.cells #[.slice none 0 0,.slice (some ⟨w.heap.size+2,0,none⟩) ls.length ls.length] 26)).grownBy V4 none)
  (hs:V4.heap.size=((((w.alloc (.cells #[.map (some b1),.map (some b2)] 59)).alloc (.cells #[.slice none 0 0,.slice none 0 0] 26)).alloc (.cells (madeCells #[.slice none 0 0,.bool false,.slice none 0 0] (ls.length*3)) 42)).alloc (.cells #[.slice none 0 0,.slice (some ⟨w.heap.size+2,0,none⟩) ls.length ls.length] 26)).heap.size+1) (v:Value):buI w w0 T b1 b2 ls v V4:=by
 obtain⟨V0,e0⟩:∃V,V=w.alloc (.cells #[.map (some b1),.map (some b2)] 59):=⟨_,rfl⟩;rw[←e0]at hg hs;obtain⟨V1,e1⟩:∃V,V=V0.alloc (.cells #[.slice none 0 0,.slice none 0 0] 26):=⟨_,rfl⟩;rw[←e1]at hg hs;obtain⟨V2,e2⟩:∃V,V=V1.alloc (.cells (madeCells #[.slice none 0 0,.bool false,.slice none 0 0] (ls.length*3)) 42):=⟨_,rfl⟩;rw[←e2]at hg hs;obtain⟨V3,e3⟩:∃V,V=V2.alloc (.cells #[.slice none 0 0,.slice (some ⟨w.heap.size+2,0,none⟩) ls.length ls.length] 26):=⟨_,rfl⟩;rw[←e3]at hg hs;have s0:V0.heap.size=w.heap.size+1:=by rw[e0];simp
 have s1:V1.heap.size=w.heap.size+2:=by rw[e1];simp[s0]
 have s2:V2.heap.size=w.heap.size+3:=by rw[e2];simp[s1]
 have s3:V3.heap.size=w.heap.size+4:=by rw[e3];simp[s2]
 have k4:Keep (fun _=>False) V3 V4:=⟨hg.os,hg.tape,hg.output,hg.size,fun b hb _=>hg.block b hb (by simp)⟩
 have k3:Keep (fun _=>False) V2 V3:=by rw[e3];exact Keep.alloc _ _ _
 have k2:Keep (fun _=>False) V1 V2:=by rw[e2];exact Keep.alloc _ _ _
 have k1:Keep (fun _=>False) V0 V1:=by rw[e1];exact Keep.alloc _ _ _
 have k0:Keep (fun _=>False) w V0:=by rw[e0];exact Keep.alloc _ _ _
 have q0:V0.heap[w.heap.size]? = some (.cells #[.map (some b1),.map (some b2)] 59):=by rw[e0];exact World.alloc_heap_new w _
 have q1:V1.heap[w.heap.size+1]? = some (.cells #[.slice none 0 0,.slice none 0 0] 26):=by rw[e1,←s0];exact World.alloc_heap_new V0 _
 have q3:V3.heap[w.heap.size+3]? = some (.cells #[.slice none 0 0,.slice (some ⟨w.heap.size+2,0,none⟩) ls.length ls.length] 26):=by rw[e3,←s2];exact World.alloc_heap_new V2 _
 have hm:=ujC V1 ls.length 42;rw[←e2,s1]at hm;have k24:Keep (fun _=>False) V2 V4:=k3.trans k4
 have hcs:∀(i:Nat) (x:GC),(List.replicate ls.length gc0)[i]? = some x→x=gc0:=fun i x hx=>by
  rw[List.getElem?_replicate]at hx;split at hx
  ·exact (Option.some.inj hx).symm
  ·cases hx
 refine⟨fun _=>True,ls.length,List.replicate ls.length gc0,fun b=>if b=w.heap.size+2 then 1 else 3,hrg,⟨⟨.inl ⟨rfl,rfl,rfl⟩,?_,(fun i x hx=>by simp at hx),fun i x hx=>?_,(fun i x hx=>by simp at hx),fun i x hx=>?_,fun b hb=>?_⟩,?_,?_,?_,?_,fun b hb=>?_,hz0⟩,by simp,by omega,(((k0.trans k1).trans k2).trans k3).trans k4,fun b hb=>if_neg (by omega),fun i z hz=>⟨gc0,?_,fun _=>rfl,fun q=>absurd trivial q⟩⟩
 ·rw[List.length_replicate]
  exact uo (hm.on (fun b q=>k24.block b (by rw[q];omega) (fun z=>z))) (fun b q=>⟨by rw[q];omega,by simp only[q,if_true]⟩)
 ·rw[hcs i x hx]
  exact .inl ⟨rfl,rfl,rfl⟩
 ·rw[hcs i x hx]
  exact ufN _ _
 ·by_cases e:b=w.heap.size+2
  ·omega
  ·simp only[if_neg e]at hb
   exact absurd rfl hb
 ·exact ((((k0.trans k1).trans k2).trans k3).trans k4).mono (fun b q=>q.elim)
 ·exact (k4.block _ (by omega) (fun z=>z)).trans ((k3.block _ (by omega) (fun z=>z)).trans ((k2.block _ (by omega) (fun z=>z)).trans ((k1.block _ (by omega) (fun z=>z)).trans q0)))
 ·exact (k4.block _ (by omega) (fun z=>z)).trans ((k3.block _ (by omega) (fun z=>z)).trans ((k2.block _ (by omega) (fun z=>z)).trans q1))
 ·exact (k4.block _ (by omega) (fun z=>z)).trans q3
 ·by_cases e:b=w.heap.size+2
  ·right;omega
  ·simp only[if_neg e]at hb
   exact absurd rfl hb
 ·rw[List.getElem?_replicate,if_pos (List.getElem?_eq_some_iff.1 hz).1]
theorem uk2{w w0 wr W' W'':World}{T:Nat→Prop}{b1 b2:Nat}{ls:List (List Int)}{todo:List Int→Prop}{cnt' nc:Nat}{cs:List GC}{G:Nat→Nat}{z:List Int}(hnd:ls.Nodup)(hrg:RgN W' b2 (w.heap.size+4) ls (ixN ls) (fun y=>todo y∧y≠z) cnt')(hS:BuS w w0 T b1 b2 G wr (.slice none 0 0) (.slice (some ⟨w.heap.size+2,0,none⟩) ls.length ls.length) [] cs)(hcl:cs.length=ls.length)(h5:w.heap.size+5≤wr.heap.size)(hkp:Keep (fun _=>False) w wr)(hg3:∀b,b<w.heap.size→G b=3)(hb2:b2<w.heap.size)
  (hcs:∀(i:Nat) (z:List Int),ls[i]? = some z→∃x,cs[i]? = some x∧(todo z→x=gc0)∧(¬todo z→x.d=⟨z,false,[]⟩)) (hz:z∈ls) (htd:todo z) (hg:wr.grownBy W' (some (w.heap.size+4))) (hs:W'.heap.size=wr.heap.size) (hk:Keep (fun _=>False) W' W'') (hs2:W''.heap.size=W'.heap.size+1)
  (ho:OwnC (fun b=>b=W'.heap.size) W'' (.slice (some ⟨W'.heap.size,0,none⟩) z.length nc) 1 z.length (uz .u8 (lf z) z.length)) (v:Value) :
  W''.cell? ⟨w.heap.size+2,ixN ls z*3,none⟩=some (.slice none 0 0)∧W''.frozen? ⟨w.heap.size+2,ixN ls z*3,none⟩=false∧buI w w0 T b1 b2 ls v (W''.setCell ⟨w.heap.size+2,ixN ls z*3,none⟩ (.slice (some ⟨W'.heap.size,0,none⟩) z.length nc))∧(W''.setCell ⟨w.heap.size+2,ixN ls z*3,none⟩ (.slice (some ⟨W'.heap.size,0,none⟩) z.length nc)).rangeLeft b2 (w.heap.size+4)=cnt':=by
 obtain⟨i,hi⟩:=List.getElem?_of_mem hz;have hix:ixN ls z=i:=kC hnd hi;rw[hix];obtain⟨x,hx,hx0,_⟩:=hcs i z hi;have ex:=hx0 htd;subst ex;have S1:=(hS.fresh.step (uep hg) (fun b q=>⟨by subst q;rw[vW (by omega)];exact hS.tag3 (fun q=>by omega) (by omega),.inr (by omega)⟩)).step hk (fun b q=>q.elim)
 have S2:=S1.tag (fun b=>b=W'.heap.size) (5+4*i) (fun b q=>⟨by rw[q,jD (by omega)],by have:=hS.le;omega,.inr (by omega)⟩)
 obtain⟨g,c,e,hgt,_,q0,_,_,f0,_⟩:=S2.bg.labelAt hx;have eg:w.heap.size+2=g:=by
  injection e with e _ _
  injection e with e
  injection e with e
 subst eg;obtain⟨g',c',e',_,_,_,_,S3⟩:=S2.setL (j:=0) (y:=⟨⟨z,false,[]⟩,some ⟨W'.heap.size,0,none⟩,nc,none,0⟩) (u:=.slice (some ⟨W'.heap.size,0,none⟩) z.length nc) hx (by omega) rfl (uo ho (fun b q=>⟨by rw[q];omega,uaz q⟩)) (ufN _ _)
 have eg':w.heap.size+2=g':=by
  injection e' with e _ _
  injection e with e
  injection e with e
 subst eg';rw[Nat.add_zero]at S3;have hrgF:RgN (W''.setCell ⟨w.heap.size+2,i*3,none⟩ (.slice (some ⟨W'.heap.size,0,none⟩) z.length nc)) b2 (w.heap.size+4) ls (ixN ls) (fun y=>todo y∧y≠z) cnt':=by
  have hl:=hrg.lt;refine (hrg.on (hk.block b2 hl.1 (fun z=>z)) (hk.block _ hl.2 (fun z=>z))).on (Below.heap_setCell _ _ _ _ ?_) (Below.heap_setCell _ _ _ _ ?_)
  ·show b2≠w.heap.size+2;omega
  ·show w.heap.size+4≠w.heap.size+2;omega
 refine⟨q0,f0,⟨fun y=>todo y∧y≠z,cnt',_,_,hrgF,S3,by rw[List.length_set];exact hcl,by rw[ul];omega,⟨hk.os.trans (hg.os.trans hkp.os),hk.tape.trans (hg.tape.trans hkp.tape),hk.output.trans (hg.output.trans hkp.output),by rw[ul];omega,fun b hb hc=>(Below.heap_setCell _ _ _ _ (by show b≠w.heap.size+2;omega)).trans ((hk.block b (by omega) (fun z=>z)).trans ((hg.block b (by omega) (by simp;omega)).trans (hkp.block b hb hc)))⟩,fun b hb=>by rw[yo (by omega),vW (by omega)];exact hg3 b hb,fun j y hy=>?_⟩,hrgF.left⟩
 ·by_cases ej:j=i
  ·subst ej
   have ey:y=z:=by rw[hi]at hy;exact (Option.some.inj hy).symm
   subst ey;refine⟨_,List.getElem?_set_self (List.getElem?_eq_some_iff.1 hx).1,fun q=>absurd rfl q.2,fun _=>rfl⟩
  ·obtain⟨x',hx',a1,a2⟩:=hcs j y hy
   have ny:y≠z:=fun q=>ej (by rw[q]at hy;rw[←kC hnd hy,kC hnd hi])
   exact⟨x',by rw[List.getElem?_set_ne (by omega)];exact hx',fun q=>a1 q.1,fun q=>a2 (fun p=>q ⟨p,ny⟩)⟩
theorem uk3{w w0 wr:World}{T:Nat→Prop}{b1 b2:Nat}{ns ls:List (List Int)}{todo:List Int→Prop}{cs:List GC}(hcl:cs.length=ls.length)(hcs:∀(i:Nat) (z:List Int),ls[i]? = some z→∃x,cs[i]? = some x∧(todo z→x=gc0)∧(¬todo z→x.d=⟨z,false,[]⟩))(hd:∀z∈ls,¬todo z):cs.map (·.d)=uS ns ls []:=by
 refine List.ext_getElem? (fun i=>?_)
 unfold uS;rw[List.getElem?_map,List.getElem?_map];cases h:ls[i]? with
 |none =>
  have:cs[i]? = none:=List.getElem?_eq_none (by have:=List.getElem?_eq_none_iff.1 h;omega)
  rw[this];rfl
 |some z =>
  obtain⟨x,hx,_,h2⟩:=hcs i z h;rw[hx];show some x.d=some (vN ns ls [] z);rw[h2 (hd z (List.mem_of_getElem? h))];rfl
end
section
open Go.RowKit
open M (OpD uj Gr)
structure BuH(qs:List Rl)(ls:List (List Int)):Prop where
 nm:NmQ qs
 dup:xF [] qs=none
 asc:Asc ls
 rec_:∀q∈qs,q.car.isSome=true→q.name.nm∈ls
 refs:∀q∈qs,∀t∈q.body.refT,t.nm∈ue qs
 thrs:∀q∈qs,∀t∈q.body.thrT,t.nm∈ls
 ops:∀q∈qs,(q.body.ops (ue qs) ls).length≤1000000
def uoG(qs:List Rl)(ls:List (List Int))(T:Nat→Prop)(w0 w:World)(e:Ending)(w':World):Prop :=
 ∃G rv lv rs cs,e=.returned (.agg #[rv,lv])∧BG w0 G w' rv lv rs cs∧rs.map (·.d)=uP (ue qs) ls qs∧cs.map (·.d)=uS (ue qs) ls qs∧Keep T w w'∧∀b,G b≠3→T b∨w.heap.size≤b
def buK(qs:List Rl)(ls:List (List Int))(dcs:List Value)(w w0:World)(T:Nat→Prop)(b1 b2:Nat)(v:Value)(wr:World):Prop :=
 ∃m G rv lv rs cs T',m≤qs.length∧v=.int .i64 (m:Nat)∧BuS w w0 T b1 b2 G wr rv lv rs cs∧rs.map (·.d)=uP (ue qs) ls (qs.take m)∧cs.map (·.d)=uS (ue qs) ls (qs.take m)∧DfT wr (qs.drop m) (dcs.drop (m*4)) T'∧(∀b,T' b→T b∧G b=3)∧w.heap.size+5≤wr.heap.size
structure BuM(qs:List Rl)(ls:List (List Int))(dcs:List Value)(w w0:World)(T:Nat→Prop)(b1 b2 m:Nat)(q:Rl)(G:Nat→Nat)(rv lv:Value)(rs cs:List GC)(W2:World)(a2:Option Addr)(c2 n2:Nat)(S T2:Nat→Prop):Prop where
 st:BuS w w0 T b1 b2 G W2 rv lv rs cs
 bod:BodP S W2 (.slice a2 n2 c2) (q.body.ops (ue qs) ls)
 len:n2=(q.body.ops (ue qs) ls).length
 free:∀b,S b→G b=3∧w0.heap.size≤b∧((T b∧b<w.heap.size)∨w.heap.size+5≤b)
 lt:∀b,S b→b<W2.heap.size
 rules:rs.map (·.d)=uP (ue qs) ls (qs.take m)
 labs:cs.map (·.d)=uS (ue qs) ls (qs.take m)
 rest:DfT W2 (qs.drop (m+1)) (dcs.drop ((m+1)*4)) T2
 t2:∀b,T2 b→(T b∧G b=3)∧¬S b
 big:w.heap.size+5≤W2.heap.size
 new3:∀b,W2.heap.size≤b→G b=3
theorem uoH{qs:List Rl}{ls:List (List Int)}{dcs:List Value}{w w0 wr W W2:World}{T P T2:Nat→Prop}{b1 b2 m n2 c2:Nat}{q:Rl}{G:Nat→Nat}{rv lv:Value}{rs cs:List GC}{a2:Option Addr}{T':Nat→Prop}(hTl:∀b,T b→b<w.heap.size∧w0.heap.size≤b)(hS:BuS w w0 T b1 b2 G wr rv lv rs cs)(hr:rs.map (·.d)=uP (ue qs) ls (qs.take m))(hl:cs.map (·.d)=uS (ue qs) ls (qs.take m))(hT':∀b,T' b→T b∧G b=3)(h5:w.heap.size+5≤wr.heap.size)
  (hd:DfT wr (qs.drop (m+1)) (dcs.drop ((m+1)*4)) T2) (hP:∀b,P b→T' b) (hT2:∀b,T2 b→T' b) (hdis:∀b,P b→¬T2 b) (ka:Keep (fun _=>False) wr W)
  (h:ufp (fun _=>False) P (q.body.ops (ue qs) ls) W (.returned (.slice a2 n2 c2)) W2):∃G2,BuM qs ls dcs w w0 T b1 b2 m q G2 rv lv rs cs W2 a2 c2 n2 (fun b=>P b∨New W W2 b) T2:=by
 obtain⟨a',c',n',e,hn,hB,hK⟩:=h;injection e with e
 injection e with e1 e2 e3
 subst e1 e2 e3;have z1:=ka.size;have z2:=hK.size;have hPl:∀b,P b→b<w.heap.size:=fun b q=>(hTl b (hT' b (hP b q)).1).1
 have S1:=(hS.fresh.step ka (fun b q=>q.elim)).step hK (fun b q=>by
  have q:P b:=q.elim (fun z=>z.elim) id
  have hb:=hPl b q;exact⟨by rw[vW (by omega)];exact (hT' b (hP b q)).2,.inl ⟨(hT' b (hP b q)).1,hb⟩⟩)
 refine⟨ufM G wr 3,⟨S1,hB.wide (fun b q=>q.elim (fun z=>z.elim) id),hn,fun b q=>?_,fun b q=>?_,hr,hl,hd.on (fun b q=>?_) (fun b q=>q),fun b q=>⟨⟨(hT' b (hT2 b q)).1,?_⟩,?_⟩,by omega,fun b hb=>jD (by omega)⟩⟩
 ·rcases q with q | q
  ·have hb:=hPl b q
   exact⟨by rw[vW (by omega)];exact (hT' b (hP b q)).2,(hTl b (hT' b (hP b q)).1).2,.inl ⟨(hT' b (hP b q)).1,hb⟩⟩
  ·have:=q.1
   have:=hS.le;exact⟨jD (by omega),by omega,.inr (by omega)⟩
 ·rcases q with q | q
  ·have:=hPl b q;omega
  ·exact q.2
 ·have hb:=(hTl b (hT' b (hT2 b q)).1).1
  exact (hK.block b (by omega) (fun z=>z.elim (fun y=>y) (fun y=>hdis b y q))).trans (ka.block b (by omega) (fun y=>y))
 ·have hb:=(hTl b (hT' b (hT2 b q)).1).1
  rw[vW (by omega)]
  exact (hT' b (hT2 b q)).2
 ·rintro (z | z)
  ·exact hdis b z q
  ·have hb:=(hTl b (hT' b (hT2 b q)).1).1
   have:=z.1;omega
theorem uoI{qs:List Rl}{ls:List (List Int)}{dcs:List Value}{w w0 W2:World}{T S T2:Nat→Prop}{b1 b2 m n2 c2:Nat}{q:Rl}{G:Nat→Nat}{rv lv:Value}{rs cs:List GC}{a2:Option Addr}(hH:BuH qs ls)(hnd:ls.Nodup)(hq:qs[m]? = some q)(hc:q.car.isSome=true)(hTl:∀b,T b→b<w.heap.size∧w0.heap.size≤b)(h:BuM qs ls dcs w w0 T b1 b2 m q G rv lv rs cs W2 a2 c2 n2 S T2) :
  ∃g c u1 u2,lv=.slice (some ⟨g,0,none⟩) ls.length c∧ixN ls q.name.nm<ls.length∧W2.cell? ⟨g,ixN ls q.name.nm*3+1,none⟩=some u1∧W2.frozen? ⟨g,ixN ls q.name.nm*3+1,none⟩=false∧W2.cell? ⟨g,ixN ls q.name.nm*3+2,none⟩=some u2∧W2.frozen? ⟨g,ixN ls q.name.nm*3+2,none⟩=false ∧
   buK qs ls dcs w w0 T b1 b2 (.int .i64 ((m:Int)+1)) ((W2.setCell ⟨g,ixN ls q.name.nm*3+1,none⟩ (.bool true)).setCell ⟨g,ixN ls q.name.nm*3+2,none⟩ (.slice a2 n2 c2)):=by
 have hqm:=List.mem_of_getElem? hq;obtain⟨j,hj⟩:=List.getElem?_of_mem (hH.rec_ q hqm hc);rw[kC hnd hj];have hjl:=(List.getElem?_eq_some_iff.1 hj).1;have hcl:cs.length=ls.length:=by
  have:=congrArg List.length h.labs;unfold uS at this;rw[List.length_map,List.length_map]at this;exact this
 obtain⟨x,hx⟩:∃x,cs[j]? = some x:=⟨_,List.getElem?_eq_getElem (by omega)⟩
 have hxn:x.d.nm=q.name.nm:=by
  have e:=congrArg (fun l=>l[j]?) h.labs
  simp only[List.getElem?_map,hx]at e;unfold uS at e;rw[List.getElem?_map,hj]at e;have e:some x.d=some (vN (ue qs) ls (qs.take m) q.name.nm):=e;rw[Option.some.inj e,jE]
 have S1:=h.st.tag S (7+4*j) h.free;obtain⟨g,c,e,hg,_,q0,q1,q2,f0,f1,f2⟩:=S1.bg.labelAt hx;obtain⟨g',c',e',_,_,_,_,S2⟩:=S1.setL (j:=1) (y:=⟨⟨x.d.nm,true,x.d.bd⟩,x.na,x.nc,x.ba,x.bc⟩) (u:=.bool true) hx (by omega) rfl (S1.bg.ln j x hx) (S1.bg.lb j x hx)
 have eg:g=g':=by
  rw[e]at e';injection e' with e' _ _
  injection e' with e'
  injection e' with e'
 subst eg;have hx1:(cs.set j ⟨⟨x.d.nm,true,x.d.bd⟩,x.na,x.nc,x.ba,x.bc⟩)[j]? = some ⟨⟨x.d.nm,true,x.d.bd⟩,x.na,x.nc,x.ba,x.bc⟩:=List.getElem?_set_self (by omega)
 have hgS:∀b,S b→b≠g:=fun b hb e=>by
  have:=hg.2;rw[←e,uaz hb]at this;omega
 have hB:BodP (Tg (tagS G S (7+4*j)) (W2.setCell ⟨g,j*3+1,none⟩ (.bool true)) (7+4*j)) (W2.setCell ⟨g,j*3+1,none⟩ (.bool true)) (.slice a2 n2 c2) (q.body.ops (ue qs) ls) :=
  (h.bod.on (fun b hb=>Below.heap_setCell _ _ _ _ (hgS b hb))).wide (fun b hb=>⟨by rw[ul];exact h.lt b hb,uaz hb⟩)
 have hnm:=S2.bg.ln j _ hx1;obtain⟨g',c',e',_,_,_,_,S3⟩:=S2.setL (j:=2) (y:=⟨⟨x.d.nm,true,q.body.ops (ue qs) ls⟩,x.na,x.nc,a2,c2⟩) (u:=.slice a2 n2 c2) hx1 (by omega) (by rw[h.len];rfl) hnm (by rw[←h.len];exact hB)
 have eg:g=g':=by
  rw[e]at e';injection e' with e' _ _
  injection e' with e'
  injection e' with e'
 subst eg;rw[List.set_set]at S3;have hml:=(List.getElem?_eq_some_iff.1 hq).1;have hgT:∀b,T2 b→b≠g:=fun b hb e=>by
  have h1:=hg.2;rw[←e,yo (h.t2 b hb).2,(h.t2 b hb).1.2]at h1;omega
 refine⟨g,c,_,_,by rw[e,hcl],hjl,q1,f1,q2,f2,m+1,_,rv,lv,rs,_,T2,hml,by simp,S3,?_,?_,?_,fun b hb=>⟨(h.t2 b hb).1.1,by rw[yo (h.t2 b hb).2];exact (h.t2 b hb).1.2⟩,by simp only[ul];exact h.big⟩
 ·rw[xe hq,uaP,hc,h.rules]
  simp
 ·rw[xe hq,uhZ hH.asc hj hc (fun s hs=>by
   have:=uaR hH.dup m q hq s (by simpa using hs)
   exact this),List.map_set,h.labs,hxn]
 ·exact h.rest.on (fun b hb=>(Below.heap_setCell _ _ _ _ (hgT b hb)).trans (Below.heap_setCell _ _ _ _ (hgT b hb))) (fun b hb=>hb)
theorem um6{qs:List Rl}{ls:List (List Int)}{dcs:List Value}{w w0 W2 W3 W4:World}{T S T2:Nat→Prop}{b1 b2 m n2 c2 nc:Nat}{q:Rl}{G:Nat→Nat}{rv lv:Value}{rs cs:List GC}{a2:Option Addr}(hq:qs[m]? = some q)(hc:q.car.isSome=false)(hTl:∀b,T b→b<w.heap.size∧w0.heap.size≤b)(h:BuM qs ls dcs w w0 T b1 b2 m q G rv lv rs cs W2 a2 c2 n2 S T2)
  (ho:OwnC (fun b=>b=W2.heap.size) W3 (.slice (some ⟨W2.heap.size,0,none⟩) q.name.nm.length nc) 1 q.name.nm.length (uz .u8 (lf q.name.nm) q.name.nm.length)) (hk3:Keep (fun _=>False) W2 W3) (hs3:W3.heap.size=W2.heap.size+1) (hk4:Keep (fun _=>False) W3 W4) :
  ∃ra rc G2,rv=.slice ra rs.length rc∧OwnC (Tg G2 W4 0) W4 rv 2 rs.length (rs.flatMap ncR)∧rs.length≤m∧∀v' W5,OwnC (fun b=>Tg G2 W4 0 b∨W4.heap.size≤b) W5 v' 2 (rs.length+1) (rs.flatMap ncR++[.slice (some ⟨W2.heap.size,0,none⟩) q.name.nm.length nc,.slice a2 n2 c2])→Grew (Tg G2 W4 0) W4 W5 →
   W5.heap[w.heap.size+3]? = some (.cells #[rv,lv] 26)∧buK qs ls dcs w w0 T b1 b2 (.int .i64 ((m:Int)+1)) (W5.setCell ⟨w.heap.size+3,0,none⟩ v'):=by
 have z4:=hk4.size;have hml:=(List.getElem?_eq_some_iff.1 hq).1;have hbig:=h.big;have hle:=h.st.le;have hst2:∀b,b<W2.heap.size→W4.heap[b]? = W2.heap[b]?:=fun b hb=>(hk4.block b (by omega) (fun z=>z)).trans (hk3.block b hb (fun z=>z))
 have S1:=(h.st.step hk3 (fun b q=>q.elim)).step hk4 (fun b q=>q.elim)
 have S2:=S1.tag S (6+4*rs.length) h.free;have S3:=S2.tag (fun b=>b=W2.heap.size) (4+4*rs.length) (fun b hb=>⟨by subst hb;rw[yo (fun z=>by have:=h.lt _ z;omega)];exact h.new3 _ (Nat.le_refl _),by omega,.inr (by omega)⟩)
 have hnS:∀b,S b→¬b=W2.heap.size:=fun b z=>by have:=h.lt b z;omega
 obtain⟨ra,rc,er⟩:=um S3.bg.rules;have hrl:rs.length≤m:=by
  have e:=congrArg List.length h.rules;unfold uP at e;rw[List.length_map,List.length_map]at e;rw[e];exact Nat.le_trans (List.length_filter_le _ _) (by rw[List.length_take];omega)
 refine⟨ra,rc,_,er,S3.bg.rules,hrl,fun v' W5 own g5=>?_⟩
 obtain⟨hv,hS5⟩:=S3.addR (x:=⟨⟨q.name.nm,true,q.body.ops (ue qs) ls⟩,some ⟨W2.heap.size,0,none⟩,nc,a2,c2⟩) (v4:=v') (W4:=W5)
  (uo (ho.on (fun b z=>hk4.block b (by rw[z];omega) (fun y=>y))) (fun b z=>⟨by rw[z];omega,uaz z⟩))
  (by rw[←h.len];exact (h.bod.on (fun b z=>hst2 b (h.lt b z))).wide (fun b z=>⟨by have:=h.lt b z;omega,by rw[yo (S:=fun b=>b=W2.heap.size) (hnS b z)];exact uaz z⟩))
  (by rw[h.len]at own;exact own) g5 (by omega)
 refine⟨hv,m+1,_,v',lv,_,cs,T2,hml,by simp,hS5,?_,?_,?_,fun b hb=>⟨(h.t2 b hb).1.1,?_⟩,by rw[ul];have:=g5.size;omega⟩
 ·rw[xe hq,uaP,hc,List.map_append,h.rules]
  simp[qu]
 ·rw[xe hq,ugV (by cases hcc:q.car with | none=>rfl | some y=>rw[hcc]at hc;cases hc),h.labs]
 ·refine h.rest.on (fun b hb=>?_) (fun b hb=>hb)
  have hb1:=(hTl b (h.t2 b hb).1.1).1;have hb2:b<W2.heap.size:=by omega
  have n3:¬b=W2.heap.size:=by omega
  refine (Below.heap_setCell _ _ _ _ (by show b≠w.heap.size+3;omega)).trans ((g5.block b (by omega) (fun z=>?_)).trans (hst2 b hb2))
  have z2:=z.2;rw[yo (S:=fun b=>b=W2.heap.size) n3,yo (h.t2 b hb).2,(h.t2 b hb).1.2]at z2
  omega
 ·have hb1:=(hTl b (h.t2 b hb).1.1).1
  rw[vW (by omega),yo (S:=fun b=>b=W2.heap.size) (show ¬b=W2.heap.size by omega),yo (h.t2 b hb).2]
  exact (h.t2 b hb).1.2
end
end Go.Proofs.YthicmmhmmfhncaaGreat
