import Derived.Test.YthicmmhmmfhncaaGreatT34
import Derived.Test.YthicmmhmmfhncaaGreatT20
import Derived.Test.YthicmmhmmfhncaaGreatT18
import Derived.Defers
import Derived.Recover
import Derived.Laws.Pointers
import Derived.Test.YthicmmhmmfhncaaGreatT25
import Derived.Test.YthicmmhmmfhncaaGreatT30
import Derived.Test.YthicmmhmmfhncaaGreatT21
set_option linter.unusedVariables false
set_option linter.unusedSimpArgs false
namespace Go.Proofs.YthicmmhmmfhncaaGreat
section
open Go.RowKit
open M (OpD uj Gr)
theorem upJ(w:World){ops:Array Oper}{rest:List Oper}{o:Oper}{a:Act}{Q:Exit→Act→World→Prop}(hg:o.guard=none)(m x:Operand)(hop:o.op=Op.lookup 57 m x false)(b:Nat)(ks:List (List Int))(g:List Int→Nat)(z:List Int)(hm:a.eval m=.map (some b))(h:MapN w b ks g)(hx:a.eval x=.string (str z.length (lf z)))(hz:z∈ks)
    (hK:wpList Tryz.prog ops Q rest (a.put o.dst (.int .i64 (g z:Nat))) w):wpList Tryz.prog ops Q (o::rest) a w:=by
  refine ule w hg m x hop b ks g z hm h hx (h.byt z hz) (h.sml z hz) ?_;unfold udq;rw[if_pos hz];exact hK
theorem um5(W:World)(a1 a2:Option Addr)(n1 c1 n2 c2:Nat)(t:TypeId):Src Tryz.prog 2 23 (.slice (some ⟨W.heap.size,0,none⟩) 1 1) 1 [.slice a1 n1 c1,.slice a2 n2 c2] (W.alloc (.cells #[.slice a1 n1 c1,.slice a2 n2 c2] t)):=by
  refine yH Tryz.underlying23 rfl (fun j u hu=>?_) (fun u hu=>?_)
  · simp only[World.cell?,World.alloc_heap_new]
    rw[←hu];simp
  · simp only[List.mem_cons,List.not_mem_nil,or_false]at hu
    rcases hu with rfl | rfl<;>rfl
theorem uk4{qs:List Rl}{dcs d:List Value}{m:Nat}{q:Rl}{v:Value}(e:dcs.drop (m*4)=dfC q v++d):dcs.drop ((m+1)*4)=d∧∀j,j<4→dcs[m*4+j]? = (dfC q v)[j]?:=by
  refine⟨?_,fun j hj=>?_⟩
  · have:=congrArg (List.drop 4) e
    rw[List.drop_drop]at this;rw[show (m+1)*4=m*4+4 by omega,this]
    rfl
  · rw[←List.getElem?_drop,e,List.getElem?_append_left (by rw[uay];exact hj)]
set_option maxHeartbeats 2000000 in
set_option maxRecDepth 100000 in
theorem uht(rb:Nat)(t:Tx)(r:Rv)(k:Tok)(sa:Option Addr)(sc i:Nat)(qs:List Rl)(A B N D T:Nat→Prop)(w w0:World)(hD:DS rb t r k sa sc i [] qs A B N D T w)(hT0:∀b,T b→w0.heap.size≤b)(hz0:w0.heap.size≤w.heap.size)(b1 b2:Nat)(ls:List (List Int))(hN:Nm2 w b1 b2 (ue qs) ls)(hT1:¬T b1)(hT2:¬T b2)(hH:BuH qs ls) :
    Calls Tryz.prog 19 #[.pointer (some ⟨rb,0,none⟩),.agg #[.map (some b1),.map (some b2)]] w (uoG qs ls T w0 w):=by
  obtain⟨dcs,hdcs,hdt⟩:=hD.row;have hql:=hD.len;simp only[List.length_nil,Nat.add_zero]at hql;obtain⟨ra,rc,hv6⟩:=um hdcs;have c6:w.cell? ⟨rb,6,none⟩=some (.slice ra qs.length rc):=by
    have h:w.cell? ⟨rb,6,none⟩=some r.v6:=ud hD.st.blk rfl;rw[hv6]at h;exact h
  have hrb:=hD.st.blk.lt;have hrbT:¬T rb:=fun q=>(hD.ta rb q).2.1 rfl
  have HTL:Hid (∀b,T b→b<w.heap.size∧w0.heap.size≤b):=fun b q=>⟨(hD.ta b q).1,hT0 b q⟩
  have HDT:Hid (DfT w qs dcs T):=hdt;have HCS:Hid (∀k q,qs[k]? = some q→∃g,ra=some ⟨g,0,none⟩∧g<w.heap.size∧¬T g∧∀j,j<4→w.cell? ⟨g,k*4+j,none⟩=dcs[k*4+j]?):=fun k q hq=>by
    have hk:=(List.getElem?_eq_some_iff.1 hq).1;obtain⟨g,c,e,hg,hc⟩:=uoP hdcs hdt.len (by omega)
    rw[hv6]at e;injection e with e1 _ _
    exact⟨g,e1,(hD.da g hg).1,(hD.da g hg).2.2.2.2.2,fun j hj=>hc k hk j hj⟩
  have HH:Hid (BuH qs ls):=hH;have HN:Hid (Nm2 w b1 b2 (ue qs) ls):=hN;have hll:ls.length≤1000000:=hN.labs.len;have HT12:Hid (¬T b1∧¬T b2):=⟨hT1,hT2⟩;have HZ0:Hid (w0.heap.size≤w.heap.size):=hz0;have hmk:=fun W=>uo2 ls.length (by omega) W
  have HM1:Hid (MapN ((w.alloc (.cells #[.map (some b1),.map (some b2)] 59)).alloc (.cells #[.slice none 0 0,.slice none 0 0] 26)) b2 ls (ixN ls)):=(hN.labs.alloc _).alloc _;have HM3:Hid (MapN ((((w.alloc (.cells #[.map (some b1),.map (some b2)] 59)).alloc (.cells #[.slice none 0 0,.slice none 0 0] 26)).alloc (.cells (madeCells #[.slice none 0 0,.bool false,.slice none 0 0] (ls.length*3)) 42)).alloc (.cells #[.slice none 0 0,.slice (some ⟨w.heap.size+2,0,none⟩) ls.length ls.length] 26)) b2 ls (ixN ls)):=(((hN.labs.alloc _).alloc _).alloc _).alloc _;clear hD hdcs hdt hv6 hT0 hH hN hT1 hT2 hz0;go_enter Tryz.func19,Tryz.ntmps19;go_wp2_with (first
    | (at_len;refine ulf _ rfl _ rfl b2 ls (ixN ls) rfl HM1.out ?_)
    | (at_range;refine uoR _ rfl _ rfl b2 ls (ixN ls) rfl HM3.out (r:=w.heap.size+4) (by simp) ?_;intro V4 hrg hgr hsz4))
  go_frame;simp only[Nat.add_assoc,Nat.reduceAdd];have HI:Hid (∀v,buI w w0 T b1 b2 ls v V4):=uk1 HZ0.out hrg.out hgr.out hsz4.out;have hb2:b2<w.heap.size:=HN.out.labs.lt;have HBY:Hid (∀z∈ls,BytL z):=HN.out.labs.byt;have HND:Hid ls.Nodup:=HN.out.labs.nd;clear hrg hgr hsz4 HM1 HM3 hmk;go_loopw [6] (buI w w0 T b1 b2 ls) (fun _ wr=>wr.rangeLeft b2 (w.heap.size+4))
  case atStart=>exact HI.out _
  case round =>
    clear HI;obtain⟨todo,cnt,cs,G,hrg,hS,hcl,h5,hkp,hg3,hcs⟩:=hrel;have HKP:Hid (Keep (fun _=>False) w wr∧∀b,b<w.heap.size→G b=3):=⟨hkp,hg3⟩
    have HRG:Hid (RgN wr b2 (w.heap.size+4) ls (ixN ls) todo cnt):=hrg;have HS:Hid (BuS w w0 T b1 b2 G wr (.slice none 0 0) (.slice (some ⟨w.heap.size+2,0,none⟩) ls.length ls.length) [] cs):=hS;have HCS2:Hid (cs.length=ls.length∧∀(i:Nat) (z:List Int),ls[i]? = some z→∃x,cs[i]? = some x∧(todo z→x=gc0)∧(¬todo z→x.d=⟨z,false,[]⟩)):=⟨hcl,hcs⟩;have H5:Hid (w.heap.size+5≤wr.heap.size):=h5;have HVAR:Hid (∀z W',z∈ls→wr.grownBy W' (some (w.heap.size+4))→W'.cell? ⟨w.heap.size+3,1,none⟩=some (.slice (some ⟨w.heap.size+2,0,none⟩) ls.length ls.length)∧w.heap.size+3<W'.heap.size∧((ixN ls z:Nat):Int)<(ls.length:Int)):=fun z W' hz hg=>by
      have hl:ixN ls z<ls.length:=List.idxOf_lt_length_of_mem hz;exact⟨ud ((hg.block (w.heap.size+3) (by omega) (by simp)).trans hS.var) rfl,by have:=hg.size;omega,by omega⟩
    have d6:wr.cell? ⟨rb,6,none⟩=some (.slice ra qs.length rc):=(hS.keep.cell (p:=⟨rb,6,none⟩) hrb hrbT).trans c6;have hrbw:rb<wr.heap.size:=by omega
    clear hrg hS hcl h5 hcs hkp hg3;go_wp2_with (first
      | (at_next
         refine upS _ rfl _ rfl b2 (w.heap.size+4) ls (ixN ls) todo cnt rfl HRG.out HBY.out HVAR.out (fun hdone=>?_) (fun z W' cnt' hz htd hrg' hlt' hg' hs' hen hzz=>?_))
      | (refine uoo rfl _ rfl z rfl (HBY.out z hz.out) ?_
         intro nc W'' ho hk hs2;have HRD:=fun v=>uk2 HND.out hrg'.out HS.out HCS2.out.1 H5.out HKP.out.1 HKP.out.2 hb2 HCS2.out.2 hz.out htd.out hg'.out hs'.out hk.out hs2.out ho.out v
         have r0:=(HRD undef).1;have rf:=(HRD undef).2.1;have lr:=ub r0;have HI2:Hid (∀v,buI w w0 T b1 b2 ls v (W''.setCell ⟨w.heap.size+2,ixN ls z*3,none⟩ (.slice (some ⟨W'.heap.size,0,none⟩) z.length nc))):=fun v=>(HRD v).2.2.1
         have HMS:Hid ((W''.setCell ⟨w.heap.size+2,ixN ls z*3,none⟩ (.slice (some ⟨W'.heap.size,0,none⟩) z.length nc)).rangeLeft b2 (w.heap.size+4)<wr.rangeLeft b2 (w.heap.size+4)):=by rw[(HRD undef).2.2.2,HRG.out.left];exact hlt'.out
         clear HRD ho hk hs2))
    · clear d6 c6 HVAR HBY
      have HL0:Hid (cs.map (·.d)=uS (ue qs) ls []):=uk3 (w:=w) (w0:=w0) (wr:=wr) (T:=T) (b1:=b1) (b2:=b2) HCS2.out.1 HCS2.out.2 hdone.out
      have HI:Hid (buK qs ls dcs w w0 T b1 b2 (.int .i64 ((0:Nat):Int)) wr):=by
        refine⟨0,ufM G wr 3,_,_,[],cs,T,Nat.zero_le _,rfl,HS.out.fresh,rfl,HL0.out,?_,fun b q=>⟨q,?_⟩,H5.out⟩
        · rw[Nat.zero_mul]
          exact HDT.out.on (fun b q=>HKP.out.1.block b (HTL.out b q).1 (fun z=>z)) (fun b q=>q)
        · have hb:=(HTL.out b q).1
          rw[vW (by have:=H5.out;omega)]
          exact HKP.out.2 b hb
      clear hdone HL0 HCS2 HRG;go_wp2;go_loopw [37] (buK qs ls dcs w w0 T b1 b2) (fun v _=>qs.length-(intOf v).toNat)
      case atStart=>exact HI.out
      case round =>
        clear HI HS H5 HKP hrbw;obtain⟨m,G2,rv,lv,rs,cs2,T',hm,rfl,hS2,hr,hl,hdf,hT',h5'⟩:=hrel;by_cases hlt:m<qs.length
        · obtain⟨q,hq⟩:∃q,qs[m]? = some q:=⟨_,List.getElem?_eq_getElem hlt⟩
          rw[udm hq]at hdf;obtain⟨v,d,P,T2,e,hTr,hDf,hP,hT2,hdis⟩:=hdf;obtain⟨hdrop,hget⟩:=uk4 (qs:=qs) e;rw[←hdrop]at hDf;obtain⟨g,rfl,hg,hTg,hc⟩:=HCS.out m q hq;obtain⟨ty,u,rfl⟩:=TrA.iface q.body hTr;have hqm:=List.mem_of_getElem? hq;have y0:wr.cell? ⟨g,m*4,none⟩=some (.string (str q.name.nm.length (lf q.name.nm))):=(hS2.keep.cell (p:=⟨g,m*4+0,none⟩) hg hTg).trans ((hc 0 (by omega)).trans (hget 0 (by omega)))
          have y1:wr.cell? ⟨g,m*4+1,none⟩=some (.int .i64 (q.name.at_:Nat)):=(hS2.keep.cell (p:=⟨g,m*4+1,none⟩) hg hTg).trans ((hc 1 (by omega)).trans (hget 1 (by omega)))
          have y2:wr.cell? ⟨g,m*4+2,none⟩=some (.bool q.car.isSome):=(hS2.keep.cell (p:=⟨g,m*4+2,none⟩) hg hTg).trans ((hc 2 (by omega)).trans (hget 2 (by omega)))
          have y3:wr.cell? ⟨g,m*4+3,none⟩=some (.iface ty u):=(hS2.keep.cell (p:=⟨g,m*4+3,none⟩) hg hTg).trans ((hc 3 (by omega)).trans (hget 3 (by omega)))
          have x0:wr.cell? ⟨w.heap.size,0,none⟩=some (.map (some b1)):=ud hS2.box rfl;have x1:wr.cell? ⟨w.heap.size,1,none⟩=some (.map (some b2)):=ud hS2.box rfl;have hgr:g<wr.heap.size:=by omega
          have hwr:w.heap.size<wr.heap.size:=by omega
          have hlt':(m:Int)<(qs.length:Int):=by omega
          have HQ:Hid (qs[m]? = some q):=hq;have hPT:∀b,P b→b<w.heap.size:=fun b z=>(HTL.out b (hT' b (hP b z)).1).1
          have hNr:Nm2 wr b1 b2 (ue qs) ls:=HN.out.on (hS2.keep.block b1 HN.out.rules.lt HT12.out.1) (hS2.keep.block b2 HN.out.labs.lt HT12.out.2);generalize hbv:q.car.isSome=bv at y2;have HBV:Hid (q.car.isSome=bv):=hbv;have ka:Keep (fun _=>False) wr (wr.alloc (.cells #[.string (str q.name.nm.length (lf q.name.nm)),.int .i64 (q.name.at_:Nat),.bool bv,.iface ty u] 80)):=Keep.alloc _ _ _
          have HC:Hid (Calls Tryz.prog 41 #[.agg #[.map (some b1),.map (some b2)],.slice none 0 0,.iface ty u] (wr.alloc (.cells #[.string (str q.name.nm.length (lf q.name.nm)),.int .i64 (q.name.at_:Nat),.bool bv,.iface ty u] 80)) (ufp (fun _=>False) P (q.body.ops (ue qs) ls) (wr.alloc (.cells #[.string (str q.name.nm.length (lf q.name.nm)),.int .i64 (q.name.at_:Nat),.bool bv,.iface ty u] 80)))) :=
            uoF b1 b2 (hTr.trv q.body (HH.out.refs q hqm) (HH.out.thrs q hqm)) _ (fun _=>False) none 0 0 [] (fun b z=>ka.block b (by have:=hPT b z;omega) (fun y=>y)) (fun b z=>⟨by have:=hPT b z;have:=ka.size;omega,fun y=>y⟩) (fun b z=>z.elim) (hNr.on (ka.block b1 hNr.rules.lt (fun y=>y)) (ka.block b2 hNr.labs.lt (fun y=>y))) (fun y=>y) (fun y=>y) (fun z=>HT12.out.1 (hT' _ (hP _ z)).1) (fun z=>HT12.out.2 (hT' _ (hP _ z)).1) (ufN _ _) rfl (by rw[List.length_nil,Nat.zero_add];exact HH.out.ops q hqm)
          have HMD:Hid (∀W2 a2 n2 c2,ufp (fun _=>False) P (q.body.ops (ue qs) ls) (wr.alloc (.cells #[.string (str q.name.nm.length (lf q.name.nm)),.int .i64 (q.name.at_:Nat),.bool bv,.iface ty u] 80)) (.returned (.slice a2 n2 c2)) W2→∃G3,BuM qs ls dcs w w0 T b1 b2 m q G3 rv lv rs cs2 W2 a2 c2 n2 (fun b=>P b∨New (wr.alloc (.cells #[.string (str q.name.nm.length (lf q.name.nm)),.int .i64 (q.name.at_:Nat),.bool bv,.iface ty u] 80)) W2 b) T2):=fun W2 a2 n2 c2 h=>uoH HTL.out hS2 hr hl hT' h5' hDf hP hT2 hdis ka h
          have HDB:Hid (∀W2,Keep (fun b=>False∨P b) (wr.alloc (.cells #[.string (str q.name.nm.length (lf q.name.nm)),.int .i64 (q.name.at_:Nat),.bool bv,.iface ty u] 80)) W2→W2.heap[wr.heap.size]? = some (.cells #[.string (str q.name.nm.length (lf q.name.nm)),.int .i64 (q.name.at_:Nat),.bool bv,.iface ty u] 80)):=fun W2 k2=>(k2.block wr.heap.size (by simp) (fun z=>by
            have z:P wr.heap.size:=z.elim (fun y=>y.elim) id
            have:=hPT _ z;omega)).trans (World.alloc_heap_new wr _)
          clear hS2 hr hl hDf hP hT2 hdis ka hT' h5' hTr hNr hPT hdrop hget hc hq hqm e hbv;go_wp2_with fail;refine HC.out.mono ?_;intro e W2 hA;obtain⟨a2,c2,n2,rfl,hn2,hB2,hK2⟩:=hA;have hdb:=HDB.out W2 hK2;obtain⟨G3,hM⟩:=HMD.out W2 a2 n2 c2 ⟨a2,c2,n2,rfl,hn2,hB2,hK2⟩;generalize hSS:(fun b=>P b∨New (wr.alloc (.cells #[.string (str q.name.nm.length (lf q.name.nm)),.int .i64 (q.name.at_:Nat),.bool bv,.iface ty u] 80)) W2 b)=SS at hM
          have HM:Hid (BuM qs ls dcs w w0 T b1 b2 m q G3 rv lv rs cs2 W2 a2 c2 n2 SS T2):=hM;have d0:W2.cell? ⟨wr.heap.size,0,none⟩=some (.string (str q.name.nm.length (lf q.name.nm))):=ud hdb rfl;have d2:W2.cell? ⟨wr.heap.size,2,none⟩=some (.bool bv):=ud hdb rfl;have ld:=ub d0;have x1':W2.cell? ⟨w.heap.size,1,none⟩=some (.map (some b2)):=ud hM.st.box rfl;have lx1:=ub x1';have v0:W2.cell? ⟨w.heap.size+3,0,none⟩=some rv:=ud hM.st.var rfl;have v1:W2.cell? ⟨w.heap.size+3,1,none⟩=some lv:=ud hM.st.var rfl;have lv0:=ub v0;have HML:Hid (MapN W2 b2 ls (ixN ls)):=HN.out.labs.on (hM.st.keep.block b2 HN.out.labs.lt HT12.out.2);clear hM hSS hn2 hB2 hK2 hdb HDB HMD HC y0 y1 y2 y3 x0 x1;cases bv with
          |true =>
            obtain⟨gl,gc,u1,u2,rfl,hixl,q1,f1,q2,f2,hI⟩:=uoI HH.out HND.out HQ.out HBV.out HTL.out HM.out;have HI2:Hid (buK qs ls dcs w w0 T b1 b2 (.int .i64 ((m:Int)+1)) ((W2.setCell ⟨gl,ixN ls q.name.nm*3+1,none⟩ (.bool true)).setCell ⟨gl,ixN ls q.name.nm*3+2,none⟩ (.slice a2 n2 c2))):=hI;have hixl':((ixN ls q.name.nm:Nat):Int)<(ls.length:Int):=by omega
            have HMEM:Hid (q.name.nm∈ls):=HH.out.rec_ q (List.mem_of_getElem? HQ.out) HBV.out;have lq1:=ub q1;clear hI HM;go_wp2_with (at_lookup;refine upJ _ rfl _ _ rfl b2 ls (ixN ls) q.name.nm rfl HML.out rfl HMEM.out ?_);go_roundw;all_goals first
              |exact HI2.out
              | (simp[intOf];omega)
          |false =>
            obtain⟨ra',rc',hrv⟩:=um HM.out.st.bg.rules;subst hrv;have HZ:Hid (BytL q.name.nm):=(HH.out.nm q (List.mem_of_getElem? HQ.out)).1;go_wp2_with (first
              | (refine uoo rfl _ rfl q.name.nm rfl HZ.out ?_
                 intro nc W3 ho hk hs3;obtain⟨ra2,rc2,G4,erv,hown,hrl,hfin⟩:=um6 HQ.out HBV.out HTL.out HM.out ho.out hk.out hs3.out (Keep.alloc (fun _=>False) W3 (.cells #[.slice (some ⟨W2.heap.size,0,none⟩) q.name.nm.length nc,.slice a2 n2 c2] 39))
                 have HOW:Hid (OwnC (Tg G4 (W3.alloc (.cells #[.slice (some ⟨W2.heap.size,0,none⟩) q.name.nm.length nc,.slice a2 n2 c2] 39)) 0) (W3.alloc (.cells #[.slice (some ⟨W2.heap.size,0,none⟩) q.name.nm.length nc,.slice a2 n2 c2] 39)) (.slice ra' rs.length rc') 2 rs.length (rs.flatMap ncR)):=hown;have HFN:Hid (∀v' W5,OwnC (fun b=>Tg G4 (W3.alloc (.cells #[.slice (some ⟨W2.heap.size,0,none⟩) q.name.nm.length nc,.slice a2 n2 c2] 39)) 0 b∨(W3.alloc (.cells #[.slice (some ⟨W2.heap.size,0,none⟩) q.name.nm.length nc,.slice a2 n2 c2] 39)).heap.size≤b) W5 v' 2 (rs.length+1) (rs.flatMap ncR++[.slice (some ⟨W2.heap.size,0,none⟩) q.name.nm.length nc,.slice a2 n2 c2])→Grew (Tg G4 (W3.alloc (.cells #[.slice (some ⟨W2.heap.size,0,none⟩) q.name.nm.length nc,.slice a2 n2 c2] 39)) 0) (W3.alloc (.cells #[.slice (some ⟨W2.heap.size,0,none⟩) q.name.nm.length nc,.slice a2 n2 c2] 39)) W5 →
                   W5.heap[w.heap.size+3]? = some (.cells #[.slice ra' rs.length rc',lv] 26)∧buK qs ls dcs w w0 T b1 b2 (.int .i64 ((m:Int)+1)) (W5.setCell ⟨w.heap.size+3,0,none⟩ v')):=hfin
                 have HRL:Hid (rs.length+1≤16777216):=Nat.le_trans (Nat.add_le_add_right hrl 1) (by omega)
                 have HSR:=um5 W3 (some ⟨W2.heap.size,0,none⟩) a2 q.name.nm.length nc n2 c2 39;have HSR:Hid _:=HSR;clear hown hfin erv hrl ho hk hs3 v0 v1 d0 d2 x1' HM)
              | (at_builtin
                 refine uai rfl _ _ 23 23 rfl rfl rfl uae (Q:=Tg G4 (W3.alloc (.cells #[.slice (some ⟨W2.heap.size,0,none⟩) q.name.nm.length nc,.slice a2 n2 c2] 39)) 0) (n:=rs.length) (cs:=rs.flatMap ncR) (m:=1) (news:=[.slice (some ⟨W2.heap.size,0,none⟩) q.name.nm.length nc,.slice a2 n2 c2]) HOW.out HSR.out HRL.out ?_;intro v5 W5 hown5 hg5 hsz5;obtain⟨hv5,hI5⟩:=HFN.out v5 W5 hown5 hg5;obtain⟨a5,c5,rfl⟩:=um hown5;have HI2:Hid (buK qs ls dcs w w0 T b1 b2 (.int .i64 ((m:Int)+1)) (W5.setCell ⟨w.heap.size+3,0,none⟩ (.slice a5 (rs.length+1) c5))):=hI5;have w50:W5.cell? ⟨w.heap.size+3,0,none⟩=some (.slice ra' rs.length rc'):=ud hv5 rfl;have wf5:W5.frozen? ⟨w.heap.size+3,0,none⟩=false:=ut hv5;have lw5:=ub w50;clear hown5 hg5 hsz5 hv5 hI5))
            go_roundw;all_goals first
              |exact HI2.out
              | (simp[intOf];omega)
        · have hge:¬((m:Int)<(qs.length:Int)):=by omega
          have hmq:m=qs.length:=by omega
          rw[hmq,List.take_of_length_le (Nat.le_refl _)]at hr hl;obtain⟨ra',rc',hrv⟩:=um hS2.bg.rules;obtain⟨la',lc',hlv⟩:=um hS2.bg.labs;subst hrv hlv;have v0:wr.cell? ⟨w.heap.size+3,0,none⟩=some (.slice ra' rs.length rc'):=ud hS2.var rfl;have v1:wr.cell? ⟨w.heap.size+3,1,none⟩=some (.slice la' cs2.length lc'):=ud hS2.var rfl;have lv0:=ub v0;have r0:wr.cell? ⟨w.heap.size+1,0,none⟩=some (.slice none 0 0):=ud hS2.res rfl;have r1:wr.cell? ⟨w.heap.size+1,1,none⟩=some (.slice none 0 0):=ud hS2.res rfl;have rf0:wr.frozen? ⟨w.heap.size+1,0,none⟩=false:=ut hS2.res;have rf1:wr.frozen? ⟨w.heap.size+1,1,none⟩=false:=ut hS2.res;have lr0:=ub r0;have HFI:Hid (uoG qs ls T w0 w (.returned (.agg #[.slice ra' rs.length rc',.slice la' cs2.length lc'])) ((wr.setCell ⟨w.heap.size+1,0,none⟩ (.slice ra' rs.length rc')).setCell ⟨w.heap.size+1,1,none⟩ (.slice la' cs2.length lc'))):=by
            have hg3:G2 (w.heap.size+1)=3:=hS2.tag3 (fun q=>by omega) (by omega)
            have hst:∀b,b≠w.heap.size+1→((wr.setCell ⟨w.heap.size+1,0,none⟩ (.slice ra' rs.length rc')).setCell ⟨w.heap.size+1,1,none⟩ (.slice la' cs2.length lc')).heap[b]? = wr.heap[b]?:=fun b hb=>(Below.heap_setCell _ _ _ _ hb).trans (Below.heap_setCell _ _ _ _ hb)
            exact⟨G2,_,_,rs,cs2,rfl,hS2.bg.on (by simp only[ul];exact Nat.le_refl _) (fun b _ hg=>hst b (fun e=>hg (by rw[e];exact hg3))) (fun _ _ _=>rfl) hS2.bg.new,hr,hl,⟨hS2.keep.os,hS2.keep.tape,hS2.keep.output,by simp only[ul];exact hS2.keep.size,fun b hb hc=>(hst b (by omega)).trans (hS2.keep.block b hb hc)⟩,fun b hb=>(hS2.own b hb).elim (fun q=>.inl q.1) (fun q=>.inr (by omega))⟩
          clear hS2 hr hl hdf hT' h5' hmq;go_wp2;refine bodyPost_ret (v:=.agg #[.slice ra' rs.length rc',.slice la' cs2.length lc']) ?_ rfl ?_
          · simp[results,Tryz.f19,go_sem, *]
          · exact HFI.out
    · go_roundw
      all_goals first
        |exact HI2.out _
        |exact HMS.out
end
section
open Go.RowKit
open M (OpD uj Gr)
theorem upP(w:World):(zeroValue 47).run Tryz.prog w=.ok (.agg #[.int .i64 0,.int .i64 0]) w:=by kernel_rfl
theorem upQ(v:Value)(w:World):(Instr.typeAssert (.iface 47 v) 20 47 true).run Tryz.prog w=.ok (.tuple #[v,.bool true]) w:=by simp[Instr.typeAssert,run_underlying Tryz.underlying47]
theorem upR(w:World):(Instr.typeAssert .nilIface 20 47 true).run Tryz.prog w=.ok (.tuple #[.agg #[.int .i64 0,.int .i64 0],.bool false]) w:=by simp[Instr.typeAssert,run_underlying Tryz.underlying47,upP]
attribute [local go_sem] upQ upR
theorem ueI:Tryz.f17.results=#[]:=by kernel_rfl
set_option maxHeartbeats 1000000 in
set_option maxRecDepth 100000 in
theorem uhA(G C A:Nat)(w:World) :
  CallsD Tryz.prog 17 #[.pointer (some ⟨G,0,none⟩),.pointer (some ⟨C,0,none⟩),.pointer (some ⟨A,0,none⟩)] .returning w fun e u' w'=>e=.returned (.tuple #[])∧u'=.returning∧Keep (fun _=>False) w w':=by
 refine callsD_of_wpS Tryz.func17 rfl fun c₀ cs hu=>?_
 apply wpS_seq
 apply wpS_region
 simp[wpOpsS,go_sem,recoverD,hu,Tryz.ntmps17,Exit.thenS];apply wpS_seq
 apply wpS_region
 simp[wpOpsS,go_sem,recoverD,hu,Tryz.ntmps17,Exit.thenS];refine wpS_cond (t:=false) (by simp[Act.eval,Array.replicate]) ?_
 simp only[Bool.false_eq_true,if_false];refine wpS_of_wp (wp_skip ?_);cases c₀
 simp_all[bodyPostS,results,ueI]
 exact Keep.alloc _ _ _
def udt(G C A:Nat)(c p:Int)(w w':World):Prop :=
 Keep (fun b=>b=G∨b=C∨b=A) w w'∧w'.cell? ⟨G,0,none⟩=some (.slice none 0 0)∧w'.cell? ⟨G,1,none⟩=some (.slice none 0 0)∧w'.cell? ⟨C,0,none⟩=some (.int .i64 c)∧w'.cell? ⟨A,0,none⟩=some (.int .i64 p)
set_option maxHeartbeats 1000000 in
set_option maxRecDepth 100000 in
theorem uge(G C A:Nat)(c p:Int)(w:World)(hGC:G≠C)(hGA:G≠A)(hCA:C≠A){u0 u1 u2 u3:Value}(g0:w.cell? ⟨G,0,none⟩=some u0)(g1:w.cell? ⟨G,1,none⟩=some u1)(c0:w.cell? ⟨C,0,none⟩=some u2)(a0:w.cell? ⟨A,0,none⟩=some u3)(fg0:w.frozen? ⟨G,0,none⟩=false)(fg1:w.frozen? ⟨G,1,none⟩=false)(fc:w.frozen? ⟨C,0,none⟩=false)(fa:w.frozen? ⟨A,0,none⟩=false) :
  CallsD Tryz.prog 17 #[.pointer (some ⟨G,0,none⟩),.pointer (some ⟨C,0,none⟩),.pointer (some ⟨A,0,none⟩)] (.panicking (flt c p)) w fun e u' w'=>e=.returned (.tuple #[])∧u'=.panicking [{ v:=.iface 47 (.agg #[.int .i64 c,.int .i64 p]),recovered:=true }]∧udt G C A c p w w':=by
 have lG:G<w.heap.size:=ub g0;have lC:C<w.heap.size:=ub c0;have lA:A<w.heap.size:=ub a0;unfold flt;refine callsD_of_wpS Tryz.func17 rfl fun c₀ cs hu=>?_
 apply wpS_seq
 apply wpS_region
 simp[wpOpsS,go_sem,recoverD,hu,Tryz.ntmps17,Exit.thenS];apply wpS_seq
 apply wpS_region
 simp[wpOpsS,go_sem,recoverD,hu,Tryz.ntmps17,Exit.thenS];refine wpS_cond (t:=true) (by simp[Act.eval,Array.replicate]) ?_
 simp only[if_true];refine wpS_of_wp ?_;simp[Array.replicate];have nGs:¬G=w.heap.size:=by omega
 have nCs:¬C=w.heap.size:=by omega
 have nAs:¬A=w.heap.size:=by omega
 have nCG:¬C=G:=fun e=>hGC e.symm
 have nAG:¬A=G:=fun e=>hGA e.symm
 have nAC:¬A=C:=fun e=>hCA e.symm
 go_region;have HFI:udt G C A c p w (((((w.setCell ⟨G,0,none⟩ (.slice none 0 0)).setCell ⟨G,1,none⟩ (.slice none 0 0)).setCell ⟨C,0,none⟩ (.int .i64 c)).setCell ⟨A,0,none⟩ (.int .i64 p)).alloc (.cells #[.int .i64 c,.int .i64 p] 47)).drew:=by
  obtain⟨V,hV⟩:∃V,V=(((w.setCell ⟨G,0,none⟩ (.slice none 0 0)).setCell ⟨G,1,none⟩ (.slice none 0 0)).setCell ⟨C,0,none⟩ (.int .i64 c)).setCell ⟨A,0,none⟩ (.int .i64 p):=⟨_,rfl⟩;have k1:Keep (fun b=>b=G∨b=C∨b=A) w V:=by
   rw[hV];exact (((Keep.setCell (C:=fun b=>b=G∨b=C∨b=A) _ _ _ (.inl rfl)).trans (Keep.setCell _ _ _ (.inl rfl))).trans (Keep.setCell _ _ _ (.inr (.inl rfl)))).trans (Keep.setCell _ _ _ (.inr (.inr rfl)))
  have hs:V.heap.size=w.heap.size:=by rw[hV];simp only[ul]
  have k2:Keep (fun _=>False) V (V.alloc (.cells #[.int .i64 c,.int .i64 p] 47)).drew:=(Keep.alloc _ _ _).trans (Keep.drew _ _)
  rw[←hV];refine⟨k1.trans (k2.mono (fun b q=>q.elim)),(k2.cell (p:=⟨G,0,none⟩) (by rw[hs];exact lG) (fun z=>z)).trans ?_,(k2.cell (p:=⟨G,1,none⟩) (by rw[hs];exact lG) (fun z=>z)).trans ?_,(k2.cell (p:=⟨C,0,none⟩) (by rw[hs];exact lC) (fun z=>z)).trans ?_,(k2.cell (p:=⟨A,0,none⟩) (by rw[hs];exact lA) (fun z=>z)).trans ?_⟩
  ·rw[hV];simp[go_sem, *]
  ·rw[hV];simp[go_sem, *]
  ·rw[hV];simp[go_sem, *]
  ·rw[hV];simp[go_sem, *]
 simp[bodyPostS,results,ueI];exact HFI
end
section
open Go.RowKit
open M (OpD uj Gr)
def PRs(t:Tx)(code at_:Int)(g:Gr):Prop :=
 (4000<t.n∧code=7∧at_=0∧g=kK)∨(t.n≤4000∧((∃p:Nat,vQ t.n ((uQ t).length+1) (uQ t)=.inl p∧code=5∧at_=p∧g=kK) ∨
  (∃qs,vQ t.n ((uQ t).length+1) (uQ t)=.inr qs∧qM t.n qs code at_ g)))
theorem ui1:∀{l l':List (List Int)},Asc l→Asc l'→(∀z,z∈l↔z∈l')→l=l'
 | [],[],_,_,_=>rfl
 | [],y::s,_,_,h=>absurd ((h y).2 (List.mem_cons_self ..)) (by simp)
 |x::r,[],_,_,h=>absurd ((h x).1 (List.mem_cons_self ..)) (by simp)
 |x::r,y::s,ha,hb,h=>by
  have e:x=y:=by
   rcases ufT x y with q | q | q
   ·rcases List.mem_cons.1 ((h x).1 (List.mem_cons_self ..)) with z | z
    ·exact z
    ·exact absurd (ufS q (hb.1 x z)) (jb x)
   ·exact q
   ·rcases List.mem_cons.1 ((h y).2 (List.mem_cons_self ..)) with z | z
    ·exact z.symm
    ·exact absurd (ufS q (ha.1 y z)) (jb y)
  subst e;rw[ui1 ha.2 hb.2 (fun z=>?_)]
  constructor
  ·intro hz
   rcases List.mem_cons.1 ((h z).1 (List.mem_cons_of_mem _ hz)) with q | q
   ·rw[q]at hz
    exact absurd (ha.1 _ hz) (jb _)
   ·exact q
  ·intro hz
   rcases List.mem_cons.1 ((h z).2 (List.mem_cons_of_mem _ hz)) with q | q
   ·rw[q]at hz
    exact absurd (hb.1 _ hz) (jb _)
   ·exact q
theorem umi{n:Nat}{qs:List Rl}{c a c' a':Int}{g g':Gr}(h:qM n qs c a g)(k:qM n qs c' a' g'):c=c'∧a=a'∧g=g':=by
 unfold qM at h k;cases hd:xF [] qs with
 |some p =>
  rw[hd]at h k;exact⟨h.1.trans k.1.symm,h.2.1.trans k.2.1.symm,h.2.2.trans k.2.2.symm⟩
 |none =>
  rw[hd]at h k;cases hr:ugZ (ue qs) qs with
  |some p =>
   rw[hr]at h k;exact⟨h.1.trans k.1.symm,h.2.1.trans k.2.1.symm,h.2.2.trans k.2.2.symm⟩
  |none =>
   rw[hr]at h k;simp only at h k;by_cases hn:ue qs = []
   ·rw[if_pos hn]at h k
    exact⟨h.1.trans k.1.symm,h.2.1.trans k.2.1.symm,h.2.2.trans k.2.2.symm⟩
   ·rw[if_neg hn]at h k
    obtain⟨ls,h1,h2,h3⟩:=h;obtain⟨ls',k1,k2,k3⟩:=k;obtain rfl:ls=ls':=ui1 h1 k1 (fun z=>(h2 z).trans (k2 z).symm)
    rcases h3 with⟨q,h⟩|⟨q,h⟩
    ·rcases k3 with⟨q',k⟩|⟨q',k⟩
     ·exact⟨h.1.trans k.1.symm,h.2.1.trans k.2.1.symm,h.2.2.trans k.2.2.symm⟩
     ·exact absurd q q'
    ·rcases k3 with⟨q',k⟩|⟨q',k⟩
     ·exact absurd q' q
     ·exact⟨h.1.trans k.1.symm,h.2.1.trans k.2.1.symm,h.2.2.trans k.2.2.symm⟩
theorem unA{t:Tx}{c a c' a':Int}{g g':Gr}(h:PRs t c a g)(k:PRs t c' a' g'):c=c'∧a=a'∧g=g':=by
 rcases h with⟨h0,h⟩|⟨h0,h⟩
 ·rcases k with⟨_,k⟩|⟨k0,_⟩
  ·exact⟨h.1.trans k.1.symm,h.2.1.trans k.2.1.symm,h.2.2.trans k.2.2.symm⟩
  ·omega
 ·rcases k with⟨k0,_⟩|⟨_,k⟩
  ·omega
  ·rcases h with⟨p,hr,h⟩|⟨qs,hr,h⟩
   ·rcases k with⟨p',kr,k⟩|⟨qs',kr,k⟩
    ·rw[hr]at kr
     injection kr with kr
     subst kr;exact⟨h.1.trans k.1.symm,h.2.1.trans k.2.1.symm,h.2.2.trans k.2.2.symm⟩
    ·rw[hr]at kr;cases kr
   ·rcases k with⟨p',kr,k⟩|⟨qs',kr,k⟩
    ·rw[hr]at kr;cases kr
    ·rw[hr]at kr
     injection kr with kr
     subst kr;exact umi h k
end
section
open Go.RowKit
open M (OpD uj Gr)
theorem ueN{l:List Int}{i:Nat}{x:Int}(h:l[i]? = some x):lf l i=x:=by unfold lf;rw[List.getD_eq_getElem?_getD,h];rfl
theorem uhH{l:List Int}{b:Int}(h:M.Canon l.length (lf l))(h0:0≤b)(h1:b≤255)(hl:∀x,l.getLast? = some x→x+2≤b):M.Canon (l++[b,b]).length (lf (l++[b,b])):=by
 obtain⟨he,hc⟩:=h;have hlen:(l++[b,b]).length=l.length+2:=by simp
 rw[hlen];have old:∀i,i<l.length→lf (l++[b,b]) i=lf l i:=fun i hi=>by unfold lf;rw[List.getD_eq_getElem?_getD,List.getD_eq_getElem?_getD,List.getElem?_append_left hi]
 have n0:lf (l++[b,b]) l.length=b:=ueN (by rw[List.getElem?_append_right (Nat.le_refl _)];simp)
 have n1:lf (l++[b,b]) (l.length+1)=b:=ueN (by rw[List.getElem?_append_right (by omega)];simp)
 refine⟨by omega,fun i hi=>?_⟩
 by_cases hi1:i<l.length
 ·obtain⟨c1,c2,c3,c4⟩:=hc i hi1
  refine⟨by rw[old i hi1];exact c1,by rw[old i hi1];exact c2,fun q=>by rw[old i hi1,old (i-1) (by omega)];exact c3 q,fun q=>by rw[old i hi1,old (i-1) (by omega)];exact c4 q⟩
 ·by_cases hi2:i=l.length
  ·subst hi2
   refine⟨by rw[n0];exact h0,by rw[n0];exact h1,fun q=>by omega,fun q=>?_⟩
   rw[n0,old (l.length-1) (by omega)]
   refine hl _ ?_;rw[List.getLast?_eq_getElem?];have hx:l[l.length-1]? = some l[l.length-1]:=List.getElem?_eq_getElem (by omega)
   rw[hx,ueN hx]
  ·obtain rfl:i=l.length+1:=by omega
   refine⟨by rw[n1];exact h0,by rw[n1];exact h1,fun q=>by rw[n1,Nat.add_sub_cancel,n0];exact Int.le_refl _,fun q=>by omega⟩
theorem uhI{l:List Int}{b x:Int}(h:M.Canon (l++[x]).length (lf (l++[x])))(hx:x≤b)(h1:b≤255):M.Canon (l++[b]).length (lf (l++[b])):=by
 obtain⟨he,hc⟩:=h;have e1:(l++[x]).length=l.length+1:=by simp
 have e2:(l++[b]).length=l.length+1:=by simp
 rw[e1]at he hc;rw[e2];have old:∀y i,i<l.length→lf (l++[y]) i=lf l i:=fun y i hi=>udw l y hi
 refine⟨he,fun i hi=>?_⟩
 have hq:=hc i hi;by_cases hi1:i<l.length
 ·unfold M.CanAt at hq ⊢
  rw[old x i hi1,old x (i-1) (by omega)]at hq
  rw[old b i hi1,old b (i-1) (by omega)]
  exact hq
 ·obtain rfl:i=l.length:=by omega
  unfold M.CanAt at hq ⊢;rw[udx]at hq ⊢;obtain⟨c1,c2,c3,c4⟩:=hq;refine⟨by omega,h1,fun q=>?_,fun q=>by omega⟩
  have:=c3 q;rw[old x (l.length-1) (by omega)]at this
  rw[old b (l.length-1) (by omega)]
  omega
theorem ugq(m:Nat→Bool):∀b,b≤256→M.Canon (cl m b).length (lf (cl m b))
 |0,_=>⟨by simp[cl],fun i hi=>absurd hi (by simp[cl])⟩
 |b+1,hb=>by
  have ih:=ugq m b (by omega)
  obtain⟨h1,h2⟩:=uft m b;rw[cl];split
  ·split
   ·rename_i hp
    obtain⟨X,hX⟩:=List.getLast?_eq_some_iff.1 (h1 hp);rw[hX]at ih ⊢;rw[List.dropLast_concat];exact uhI ih (by omega) (by omega)
   ·rename_i hp
    exact uhH ih (by omega) (by omega) (fun x hx=>by have:=(h2 x hx).2 hp;omega)
  ·exact ih
theorem ugr(m:Nat→Bool):M.Canon (rg m 256).length (lf (rg m 256)):=by
 rw[ueJ];exact ugq m 256 (Nat.le_refl _)
theorem ueO{a b:Int}(h0:0≤a)(h1:a≤b)(h2:b≤255):M.Canon [a,b].length (lf [a,b]):=by
 refine⟨by simp,fun i hi=>?_⟩
 match i,hi with
 |0,_=>exact⟨h0,by show a≤255;omega,fun q=>absurd q (by omega),fun q=>absurd q.1 (by omega)⟩
 |1,_=>exact⟨by show 0≤b;omega,h2,fun _=>h1,fun q=>absurd q.2 (by omega)⟩
def js:List OpD→Int→Option Int
 | [],d=>some d
 |o::r,d=>if M.ar o.kind≤d then js r (d+(1-M.ar o.kind)) else none
theorem uaE:∀(x y:List OpD) (d:Int),js (x++y) d=(js x d).bind (js y)
 | [],y,d=>rfl
 |o::r,y,d=>by
  rw[List.cons_append,js,js];split
  ·exact uaE r y _
  ·rfl
def ucT(D:List OpD):Prop:=∀d,0≤d→js D d=some (d+1)
theorem xZ{o:OpD}(h:M.ar o.kind=0):ucT [o]:=fun d hd=>by rw[js,h,if_pos hd,js];simp
theorem uc5{k:Int}{D:List OpD}(h:ucT D)(hk:M.ar k=1):ucT (unD k D):=fun d hd=>by
 rw[unD,uaE,h d hd];show js [opd k 0] (d+1)=_;rw[js];have e:M.ar (opd k 0).kind=1:=hk;rw[e,if_pos (by omega),js]
 simp
theorem uaF{k:Int}{D D':List OpD}(h:ucT D)(h':ucT D')(hk:M.ar k=2):ucT (uw k D D'):=fun d hd=>by
 rw[uw,uaE,uaE,h d hd];show ((js D' (d+1)).bind (js [opd k 0]))=_;rw[h' (d+1) (by omega)]
 show js [opd k 0] (d+1+1)=_;rw[js];have e:M.ar (opd k 0).kind=2:=hk;rw[e,if_pos (by omega),js]
 congr 1
 omega
theorem uaG(z:List Int):ucT (ui z):=xZ rfl
theorem ugs(z:List Int):ucT (xQ z):=by
 have key:∀(r:List Int) (D:List OpD),ucT D→ucT (r.foldl (fun out y=>out++ui (ur y)++[opd 4 0]) D):=by
  intro r;induction r with
  |nil=>exact fun D h=>h
  |cons y r ih=>exact fun D h=>ih _ (uaF h (uaG _) rfl)
 cases z with
 |nil=>exact xZ rfl
 |cons x r=>exact key r _ (uaG _)
theorem ulG(rs ls:List (List Int))(e:PE):ucT (e.ops rs ls):=by
 induction e with
 |ref t=>exact xZ rfl
 |thr c t=>exact xZ rfl
 |str t=>exact ugs _
 |cls t=>exact uaG _
 |dot t=>exact uaG _
 |grp o e c ih=>exact ih
 |star e t ih=>exact uc5 ih rfl
 |opt e t ih=>exact uaF ih (xZ rfl) rfl
 |not t e ih=>exact uc5 ih rfl
 |amp t e ih=>exact uc5 (uc5 ih rfl) rfl
 |emp=>exact xZ rfl
 |seq a b iha ihb=>exact uaF iha ihb rfl
 |alt a t b iha ihb=>exact uaF iha ihb rfl
theorem uhJ{D:List OpD}(h:ucT D):M.Shape D.length (df D):=by
 have key:∀i,i≤D.length→(∀j,j<i→M.ar (df D j).kind≤M.dep (df D) j)∧js (D.drop i) (M.dep (df D) i)=some 1:=by
  intro i;induction i with
  |zero=>exact fun _=>⟨fun j hj=>absurd hj (by omega),by rw[List.drop_zero];exact h 0 (Int.le_refl _)⟩
  |succ i ih =>
   intro hi;obtain⟨h1,h2⟩:=ih (by omega)
   have hx:D[i]? = some D[i]:=List.getElem?_eq_getElem (by omega)
   rw[ujY hx,js]at h2;have e:df D i=D[i]:=qe hx;split at h2
   ·rename_i hle
    refine⟨fun j hj=>?_,?_⟩
    ·by_cases q:j=i
     ·subst q;rw[e];exact hle
     ·exact h1 j (by omega)
    ·rw[M.dep,e];exact h2
   ·cases h2
 obtain⟨h1,h2⟩:=key D.length (Nat.le_refl _);rw[List.drop_of_length_le (Nat.le_refl _),js]at h2;injection h2 with h2
 exact⟨h1,h2⟩
def PE.refs:PE→List (List Int)
 | .ref t=>[t.nm]
 | .thr _ _ | .str _ | .cls _ | .dot _ | .emp=>[]
 | .grp _ e _ | .star e _ | .opt e _ | .not _ e | .amp _ e=>e.refs
 | .seq a b | .alt a _ b=>a.refs++b.refs
def PE.thrs:PE→List (List Int)
 | .thr _ t=>[t.nm]
 | .ref _ | .str _ | .cls _ | .dot _ | .emp=>[]
 | .grp _ e _ | .star e _ | .opt e _ | .not _ e | .amp _ e=>e.thrs
 | .seq a b | .alt a _ b=>a.thrs++b.thrs
theorem ueP{z:List Int}{l:List (List Int)}(h:z∈l):0≤vV z l 0∧vV z l 0<l.length:=by
 have key:∀(l:List (List Int)) (i:Nat),z∈l→(i:Int)≤vV z l i∧vV z l i<(i:Int)+l.length:=by
  intro l;induction l with
  |nil=>intro i h;cases h
  |cons y r ih =>
   intro i h;rw[vV];by_cases e:y=z
   ·rw[if_pos e]
    simp only[List.length_cons];omega
   ·rw[if_neg e]
    have:=ih (i+1) ((List.mem_cons.1 h).resolve_left (fun q=>e q.symm))
    simp only[List.length_cons];omega
 have:=key l 0 h;omega
theorem uah{nr nb:Nat}{k:Int}(h0:0≤k)(h7:k≤7)(h1:k≠1)(h2:k≠2)(h3:k≠3):M.ElemOK nr nb (opd k 0) :=
 ⟨h0,h7,fun q=>absurd q h1,fun _=>rfl,Int.le_refl _,by show (0:Int)<M.most nr nb k;unfold M.most;rw[if_neg h3,if_neg h2];omega⟩
theorem udC{nr nb:Nat}{z:List Int}(h:M.Canon z.length (lf z)):∀x∈ui z,M.ElemOK nr nb x:=fun x hx=>by
 rw[ui]at hx;rw[List.mem_singleton.1 hx];exact⟨by show (0:Int)≤1;decide,by show (1:Int)≤7;decide,fun _=>h,fun q=>absurd rfl q,Int.le_refl _,by show (0:Int)<M.most nr nb 1;unfold M.most;rw[if_neg (by decide),if_neg (by decide)];decide⟩
theorem ulH{n:Nat}(rs ls:List (List Int))(e:PE)(hT:∀t∈e.tk,TokF n t)(hok:e.ok 5)(hr:∀z∈e.refs,z∈rs)(ht:∀z∈e.thrs,z∈ls):∀x∈e.ops rs ls,M.ElemOK rs.length ls.length x:=by
 have un:∀k D,k=6∨k=7→(∀x∈D,M.ElemOK rs.length ls.length x)→∀x∈unD k D,M.ElemOK rs.length ls.length x:=fun k D hk h x hx=>by
  rw[unD]at hx;rcases List.mem_append.1 hx with q | q
  ·exact h x q
  ·rw[List.mem_singleton.1 q];rcases hk with rfl | rfl<;>exact uah (by decide) (by decide) (by decide) (by decide) (by decide)
 have bin:∀k D D',k=4∨k=5→(∀x∈D,M.ElemOK rs.length ls.length x)→(∀x∈D',M.ElemOK rs.length ls.length x)→∀x∈uw k D D',M.ElemOK rs.length ls.length x:=fun k D D' hk h h' x hx=>by
  rw[uw]at hx;simp only[List.mem_append,List.mem_singleton]at hx;rcases hx with (q | q) | q
  ·exact h x q
  ·exact h' x q
  ·rw[q];rcases hk with rfl | rfl<;>exact uah (by decide) (by decide) (by decide) (by decide) (by decide)
 have emp:∀x∈uf 0 0,M.ElemOK rs.length ls.length x:=fun x hx=>by
  rw[uf]at hx;rw[List.mem_singleton.1 hx];exact uah (by decide) (by decide) (by decide) (by decide) (by decide)
 have byt:∀y:Int,0≤y→y≤255→∀x∈ui (ur y),M.ElemOK rs.length ls.length x:=fun y h0 h1=>udC (ueO h0 (Int.le_refl _) h1)
 have strs:∀z,BytL z→∀x∈xQ z,M.ElemOK rs.length ls.length x:=by
  have key:∀(r:List Int) (D:List OpD),BytL r→(∀x∈D,M.ElemOK rs.length ls.length x)→∀x∈r.foldl (fun out y=>out++ui (ur y)++[opd 4 0]) D,M.ElemOK rs.length ls.length x:=by
   intro r;induction r with
   |nil=>exact fun D _ h=>h
   |cons y r ih=>exact fun D hb h=>ih _ (fun x hx=>hb x (by simp[hx])) (bin 4 D (ui (ur y)) (.inl rfl) h (byt y (hb y (by simp)).1 (hb y (by simp)).2))
  intro z hb;cases z with
  |nil=>exact emp
  |cons y r=>exact key r _ (fun x hx=>hb x (by simp[hx])) (byt y (hb y (by simp)).1 (hb y (by simp)).2)
 have main:∀(e:PE) (l:Nat),(∀t∈e.tk,TokF n t)→e.ok l→(∀z∈e.refs,z∈rs)→(∀z∈e.thrs,z∈ls)→∀x∈e.ops rs ls,M.ElemOK rs.length ls.length x:=by
  intro e;induction e with
  |ref t =>
   intro l hT hok hr ht x hx;rw[PE.ops,uf]at hx;rw[List.mem_singleton.1 hx];have:=ueP (hr t.nm (by simp[PE.refs]))
   exact⟨by show (0:Int)≤2;decide,by show (2:Int)≤7;decide,fun q=>absurd (show (2:Int)=1 from q) (by decide),fun _=>rfl,this.1,by show vV t.nm rs 0<M.most _ _ 2;unfold M.most;rw[if_neg (by decide),if_pos rfl];exact this.2⟩
  |thr c t =>
   intro l hT hok hr ht x hx;rw[PE.ops,uf]at hx;rw[List.mem_singleton.1 hx];have:=ueP (ht t.nm (by simp[PE.thrs]))
   exact⟨by show (0:Int)≤3;decide,by show (3:Int)≤7;decide,fun q=>absurd (show (3:Int)=1 from q) (by decide),fun _=>rfl,this.1,by show vV t.nm ls 0<M.most _ _ 3;unfold M.most;rw[if_pos rfl];exact this.2⟩
  |str t=>exact fun l hT _ _ _=>strs _ (hT t (by simp[PE.tk])).byt
  |cls t =>
   intro l hT hok _ _;obtain⟨m,hm⟩:=(hT t (by simp[PE.tk])).cls hok
   show ∀x∈ui t.set,_;exact udC (by rw[hm];exact ugr m)
  |dot t=>exact fun l _ _ _ _=>udC (ueO (by decide) (by decide) (by decide))
  |grp o e c ih=>exact fun l hT hok hr ht=>ih 5 (fun t q=>hT t (by simp[PE.tk,q])) hok.2.2 hr ht
  |star e t ih=>exact fun l hT hok hr ht=>un _ _ (.inl rfl) (ih 0 (fun t q=>hT t (by simp[PE.tk,q])) hok.2.2 hr ht)
  |opt e t ih=>exact fun l hT hok hr ht=>bin _ _ _ (.inr rfl) (ih 0 (fun t q=>hT t (by simp[PE.tk,q])) hok.2.2 hr ht) emp
  |not t e ih=>exact fun l hT hok hr ht=>un _ _ (.inr rfl) (ih 2 (fun t q=>hT t (by simp[PE.tk,q])) hok.2.2 hr ht)
  |amp t e ih=>exact fun l hT hok hr ht=>un _ _ (.inr rfl) (un _ _ (.inr rfl) (ih 2 (fun t q=>hT t (by simp[PE.tk,q])) hok.2.2 hr ht))
  |emp=>exact fun l _ _ _ _=>emp
  |seq a b iha ihb=>exact fun l hT hok hr ht=>bin _ _ _ (.inl rfl) (iha 3 (fun t q=>hT t (by simp[PE.tk,q])) hok.2.1 (fun z q=>hr z (by simp[PE.refs,q])) (fun z q=>ht z (by simp[PE.thrs,q]))) (ihb 2 (fun t q=>hT t (by simp[PE.tk,q])) hok.2.2 (fun z q=>hr z (by simp[PE.refs,q])) (fun z q=>ht z (by simp[PE.thrs,q])))
  |alt a t b iha ihb=>exact fun l hT hok hr ht=>bin _ _ _ (.inr rfl) (iha 5 (fun t q=>hT t (by simp[PE.tk,q])) hok.2.2.1 (fun z q=>hr z (by simp[PE.refs,q])) (fun z q=>ht z (by simp[PE.thrs,q]))) (ihb 4 (fun t q=>hT t (by simp[PE.tk,q])) hok.2.2.2 (fun z q=>hr z (by simp[PE.refs,q])) (fun z q=>ht z (by simp[PE.thrs,q])))
 exact main e 5 hT hok hr ht
theorem ulI{n:Nat}(rs ls:List (List Int))(e:PE)(hT:∀t∈e.tk,TokF n t)(hok:e.ok 5)(hr:∀z∈e.refs,z∈rs)(ht:∀z∈e.thrs,z∈ls):M.BodyOK rs.length ls.length (e.ops rs ls).length (df (e.ops rs ls)) :=
 ⟨fun i hi=>by rw[qe (List.getElem?_eq_getElem hi)];exact ulH rs ls e hT hok hr ht _ (List.getElem_mem hi),uhJ (ulG rs ls e)⟩
end
section
open Go.RowKit
open M (OpD uj Gr)
theorem unm:∀(e:PE),∀t∈e.refT,t∈e.tk:=by
 intro e;induction e with
 |ref t=>intro x hx;simpa[PE.refT,PE.tk] using hx
 |thr c t=>intro x hx;cases hx
 |str t=>intro x hx;cases hx
 |cls t=>intro x hx;cases hx
 |dot t=>intro x hx;cases hx
 |grp o e c ih=>intro x hx;have:=ih x hx;simp[PE.tk,this]
 |star e t ih=>intro x hx;have:=ih x hx;simp[PE.tk,this]
 |opt e t ih=>intro x hx;have:=ih x hx;simp[PE.tk,this]
 |not t e ih=>intro x hx;have:=ih x hx;simp[PE.tk,this]
 |amp t e ih=>intro x hx;have:=ih x hx;simp[PE.tk,this]
 |emp=>intro x hx;cases hx
 |seq a b iha ihb=>intro x hx;rcases List.mem_append.1 hx with q | q;have:=iha x q;simp[PE.tk,this];have:=ihb x q;simp[PE.tk,this]
 |alt a t b iha ihb=>intro x hx;rcases List.mem_append.1 hx with q | q;have:=iha x q;simp[PE.tk,this];have:=ihb x q;simp[PE.tk,this]
theorem uiC:∀(e:PE),∀t∈e.thrT,t∈e.tk:=by
 intro e;induction e with
 |thr c t =>
   intro x hx;have:x=t:=by simpa[PE.thrT] using hx
   simp[PE.tk,this]
 |ref t=>intro x hx;cases hx
 |str t=>intro x hx;cases hx
 |cls t=>intro x hx;cases hx
 |dot t=>intro x hx;cases hx
 |grp o e c ih=>intro x hx;have:=ih x hx;simp[PE.tk,this]
 |star e t ih=>intro x hx;have:=ih x hx;simp[PE.tk,this]
 |opt e t ih=>intro x hx;have:=ih x hx;simp[PE.tk,this]
 |not t e ih=>intro x hx;have:=ih x hx;simp[PE.tk,this]
 |amp t e ih=>intro x hx;have:=ih x hx;simp[PE.tk,this]
 |emp=>intro x hx;cases hx
 |seq a b iha ihb=>intro x hx;rcases List.mem_append.1 hx with q | q;have:=iha x q;simp[PE.tk,this];have:=ihb x q;simp[PE.tk,this]
 |alt a t b iha ihb=>intro x hx;rcases List.mem_append.1 hx with q | q;have:=iha x q;simp[PE.tk,this];have:=ihb x q;simp[PE.tk,this]
theorem ujK:∀(e:PE),e.refs=e.refT.map (·.nm):=by
 intro e;induction e with
 |ref t=>rfl
 |thr c t=>rfl
 |str t=>rfl
 |cls t=>rfl
 |dot t=>rfl
 |grp o e c ih=>exact ih
 |star e t ih=>exact ih
 |opt e t ih=>exact ih
 |not t e ih=>exact ih
 |amp t e ih=>exact ih
 |emp=>rfl
 |seq a b iha ihb=>simp[PE.refs,PE.refT,iha,ihb]
 |alt a t b iha ihb=>simp[PE.refs,PE.refT,iha,ihb]
theorem ujL:∀(e:PE),e.thrs=e.thrT.map (·.nm):=by
 intro e;induction e with
 |ref t=>rfl
 |thr c t=>rfl
 |str t=>rfl
 |cls t=>rfl
 |dot t=>rfl
 |grp o e c ih=>exact ih
 |star e t ih=>exact ih
 |opt e t ih=>exact ih
 |not t e ih=>exact ih
 |amp t e ih=>exact ih
 |emp=>rfl
 |seq a b iha ihb=>simp[PE.thrs,PE.thrT,iha,ihb]
 |alt a t b iha ihb=>simp[PE.thrs,PE.thrT,iha,ihb]
def orE(a b:Option Nat):Option Nat:=match a with | some p=>some p | none=>b
theorem uaD(ns:List (List Int)):∀(x y:List Tok),yY ns (x++y)=orE (yY ns x) (yY ns y)
 | [],y=>rfl
 |t::r,y=>by
  rw[List.cons_append,yY,yY,uaD ns r y];split<;>rfl
theorem ueL(a b c:Option Nat):orE (orE a b) c=orE a (orE b c):=by cases a<;>rfl
theorem yP{ns:List (List Int)}{t:Tok}{pc:Bool}{r:List Tok}(h1:t.kind≠110)(h2:t.kind≠94):jF ns pc (t::r)=jF ns false r:=by
 rw[jF,if_neg (fun q=>h1 q.1)]
 have:(t.kind==94)=false:=by simp[h2]
 rw[this]
theorem ulD(ns:List (List Int)):∀(e:PE) (l:Nat) (r:List Tok),e.ok l→jF ns false (e.tk++r)=orE (yY ns e.refT) (jF ns false r):=by
 intro e;induction e with
 |ref t =>
  intro l r h;have h:t.kind=110:=h;show jF ns false (t::r)=_;rw[jF];have e1:(t.kind==94)=false:=by rw[h];rfl
  rw[e1];simp only[PE.refT,yY];by_cases q:t.nm∈ns
  ·rw[if_neg (fun z=>z.2.2 q),if_pos q];rfl
  ·rw[if_pos ⟨h,trivial,q⟩,if_neg q];rfl
 |thr c t =>
  intro l r h;obtain⟨h1,h2⟩:c.kind=94∧t.kind=110:=h;show jF ns false (c::t::r)=jF ns false r;rw[jF,if_neg (fun q=>by omega)]
  have e1:(c.kind==94)=true:=by rw[h1];rfl
  rw[e1,jF,if_neg (fun q=>by cases q.2.1)]
  have e2:(t.kind==94)=false:=by rw[h2];rfl
  rw[e2]
 |str t=>intro l r h;have h:t.kind=34:=h;exact yP (by omega) (by omega)
 |cls t=>intro l r h;have h:t.kind=91:=h;exact yP (by omega) (by omega)
 |dot t=>intro l r h;have h:t.kind=46:=h;exact yP (by omega) (by omega)
 |grp o e c ih =>
  intro l r h;show jF ns false ((o::(e.tk++[c]))++r)=_;rw[List.cons_append,List.append_assoc,yP (by rw[h.1];omega) (by rw[h.1];omega),ih 5 _ h.2.2,List.singleton_append,yP (by rw[h.2.1];omega) (by rw[h.2.1];omega)]
  rfl
 |star e t ih =>
  intro l r h;show jF ns false ((e.tk++[t])++r)=_;rw[List.append_assoc,ih 0 _ h.2.2,List.singleton_append,yP (by rw[h.2.1];omega) (by rw[h.2.1];omega)]
  rfl
 |opt e t ih =>
  intro l r h;show jF ns false ((e.tk++[t])++r)=_;rw[List.append_assoc,ih 0 _ h.2.2,List.singleton_append,yP (by rw[h.2.1];omega) (by rw[h.2.1];omega)]
  rfl
 |not t e ih =>
  intro l r h;show jF ns false (t::(e.tk++r))=_;rw[yP (by rw[h.2.1];omega) (by rw[h.2.1];omega),ih 2 _ h.2.2]
  rfl
 |amp t e ih =>
  intro l r h;show jF ns false (t::(e.tk++r))=_;rw[yP (by rw[h.2.1];omega) (by rw[h.2.1];omega),ih 2 _ h.2.2]
  rfl
 |emp=>intro l r h;rfl
 |seq a b iha ihb =>
  intro l r h;show jF ns false ((a.tk++b.tk)++r)=orE (yY ns (a.refT++b.refT)) _;rw[List.append_assoc,iha 3 _ h.2.1,ihb 2 _ h.2.2,uaD,ueL]
 |alt a t b iha ihb =>
  intro l r h;show jF ns false ((a.tk++t::b.tk)++r)=orE (yY ns (a.refT++b.refT)) _;rw[List.append_assoc,iha 5 _ h.2.2.1,List.cons_append,yP (by rw[h.2.1];omega) (by rw[h.2.1];omega),ihb 4 _ h.2.2.2,uaD,ueL]
theorem uag(ns:List (List Int)):∀(qs:List Rl),(∀q∈qs,q.ok)→yY ns (yc qs)=ugZ ns qs
 | [],_=>rfl
 |q::r,h=>by
  have e1:yc (q::r)=q.body.refT++yc r:=rfl;have h2:=ulD ns q.body 5 [] (h q (by simp)).2.2.2.1
  rw[List.append_nil]at h2;rw[e1,uaD,uag ns r (fun x hx=>h x (by simp[hx])),ugZ,h2]
  cases yY ns q.body.refT<;>rfl
theorem ueM{ns:List (List Int)}:∀{l:List Tok},yY ns l=none→∀t∈l,t.nm∈ns
 | [],_,t,h=>by cases h
 |x::r,h,t,ht=>by
  rw[yY]at h;split at h
  ·rename_i q
   rcases List.mem_cons.1 ht with e | e
   ·rw[e];exact q
   ·exact ueM h t e
  ·cases h
theorem vB{x:Tok}{r:List Tok}(h:x.kind≠94):vo (x::r)=vo r:=by
 cases r with
 |nil=>rfl
 |cons y r=>rw[vo,if_neg h];rfl
theorem uhD:∀(e:PE) (l:Nat) (r:List Tok),e.ok l→vo (e.tk++r)=e.thrT.map (·.nm)++vo r:=by
 intro e;induction e with
 |ref t=>intro l r h;have h:t.kind=110:=h;exact vB (by omega)
 |thr c t =>
  intro l r h;obtain⟨h1,h2⟩:c.kind=94∧t.kind=110:=h;show vo (c::t::r) = [t.nm]++vo r;rw[vo,if_pos h1,vB (by omega)]
 |str t=>intro l r h;have h:t.kind=34:=h;exact vB (by omega)
 |cls t=>intro l r h;have h:t.kind=91:=h;exact vB (by omega)
 |dot t=>intro l r h;have h:t.kind=46:=h;exact vB (by omega)
 |grp o e c ih =>
  intro l r h;show vo ((o::(e.tk++[c]))++r)=e.thrT.map (·.nm)++vo r
  rw[List.cons_append,List.append_assoc,vB (by rw[h.1];omega),ih 5 _ h.2.2,List.singleton_append,vB (by rw[h.2.1];omega)]
 |star e t ih =>
  intro l r h;show vo ((e.tk++[t])++r)=e.thrT.map (·.nm)++vo r
  rw[List.append_assoc,ih 0 _ h.2.2,List.singleton_append,vB (by rw[h.2.1];omega)]
 |opt e t ih =>
  intro l r h;show vo ((e.tk++[t])++r)=e.thrT.map (·.nm)++vo r
  rw[List.append_assoc,ih 0 _ h.2.2,List.singleton_append,vB (by rw[h.2.1];omega)]
 |not t e ih =>
  intro l r h;show vo (t::(e.tk++r))=e.thrT.map (·.nm)++vo r
  rw[vB (by rw[h.2.1];omega),ih 2 _ h.2.2]
 |amp t e ih =>
  intro l r h;show vo (t::(e.tk++r))=e.thrT.map (·.nm)++vo r
  rw[vB (by rw[h.2.1];omega),ih 2 _ h.2.2]
 |emp=>intro l r h;rfl
 |seq a b iha ihb =>
  intro l r h;show vo ((a.tk++b.tk)++r)=(a.thrT++b.thrT).map (·.nm)++vo r
  rw[List.append_assoc,iha 3 _ h.2.1,ihb 2 _ h.2.2,List.map_append,List.append_assoc]
 |alt a t b iha ihb =>
  intro l r h;show vo ((a.tk++t::b.tk)++r)=(a.thrT++b.thrT).map (·.nm)++vo r
  rw[List.append_assoc,iha 5 _ h.2.2.1,List.cons_append,vB (by rw[h.2.1];omega),ihb 4 _ h.2.2.2,List.map_append,List.append_assoc]
theorem ugp{qs:List Rl}(h:∀q∈qs,q.ok)(z:List Int):z∈ufU qs↔z∈uB qs∨∃t∈vK qs,t.nm=z:=by
 have e:∀q∈qs,vo q.body.tk=q.body.thrT.map (·.nm):=fun q hq=>by
  have:=uhD q.body 5 [] (h q hq).2.2.2.1;rw[List.append_nil]at this;rw[this];simp[vo]
 unfold ufU uB vK umg;simp only[List.mem_flatMap,List.mem_append,List.mem_map,List.mem_filter];constructor
 ·rintro⟨q,hq,h1 | h1⟩
  ·split at h1
   ·rename_i hc
    exact .inl ⟨q,⟨hq,hc⟩,(List.mem_singleton.1 h1).symm⟩
   ·cases h1
  ·rw[e q hq]at h1
   obtain⟨t,ht,rfl⟩:=List.mem_map.1 h1;exact .inr ⟨t,⟨q,hq,ht⟩,rfl⟩
 ·rintro (⟨q,⟨hq,hc⟩,rfl⟩|⟨t,⟨q,hq,ht⟩,rfl⟩)
  ·exact⟨q,hq,.inl (by rw[if_pos hc];simp)⟩
  ·exact⟨q,hq,.inr (by rw[e q hq];exact List.mem_map.2 ⟨t,ht,rfl⟩)⟩
end
end Go.Proofs.YthicmmhmmfhncaaGreat
