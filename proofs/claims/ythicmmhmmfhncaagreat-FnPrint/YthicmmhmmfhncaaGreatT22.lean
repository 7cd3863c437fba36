import Derived.Test.YthicmmhmmfhncaaGreatT21
import Derived.Deep.WholeRow
set_option linter.unusedVariables false
set_option linter.unusedSimpArgs false
namespace Go.Proofs.YthicmmhmmfhncaaGreat
section
open Go.RowKit
open M (OpD uj Gr)
theorem um7:(Tryz.prog.info? 138).map (fun i=>(i.zero,i.size))=some (some (.agg (madeCells #[.bool false] 256)),256):=by kernel_rfl
def ScC(res:Option (List Int×Nat))(i:Nat)(rb:Nat)(t:Tx)(r:Rv)(w:World)(e:Ending)(w':World):Prop :=
 Keep (fun b=>b=rb) w w'∧((∃z j a c,res=some (z,j)∧e=.returned (.agg #[.int .u8 91,.int .i64 (i:Nat),.string ⟨#[]⟩,.slice a z.length c])∧RB rb t r j w'∧OwnC (New w w') w' (.slice a z.length c) 1 z.length (uz .i64 (lf z) z.length))∨(res=none∧e=.panicked (flt 5 (i:Nat))))
theorem uju(t:Tx)(f j:Nat)(m:Nat→Bool):yJ t (f+1) j m=if j<t.n∧t.T j=93 then some (m,j) else match chM t j true with
  |none=>none
  |some (lo,j1)=>if j1<t.n∧t.T j1=45 then (match chM t (j1+1) true with | none=>none | some (hi,j2)=>if hi<lo then none else yJ t f j2 (yn m lo.toNat (hi.toNat+1))) else yJ t f j1 (yn m lo.toNat (lo.toNat+1)):=by
 rw[yJ];split
 ·rfl
 ·unfold chM
  split
  ·rfl
  ·simp only
   split
   ·by_cases h0:(chr t (j+(chr t j true).2+1) true).2=0
    ·rw[if_pos (.inl h0),if_pos h0]
    ·rw[if_neg h0]
     simp only;by_cases h1:(chr t (j+(chr t j true).2+1) true).1<(chr t j true).1
     ·rw[if_pos (.inr h1),if_pos h1]
     ·rw[if_neg (fun q=>q.elim h0 h1),if_neg h1]
   ·rfl
def uoJ(rb:Nat)(t:Tx)(r:Rv)(w:World)(MB:Nat)(RR:Option ((Nat→Bool)×Nat))(v:Value)(wr:World):Prop :=
 ∃(f j:Nat) (m:Nat→Bool),j≤t.n∧t.n-j<f∧yJ t f j m=RR∧RB rb t r j wr∧wr.rowIs MB 138 256 (fun b=>.bool (m b))∧wr.heap[w.heap.size]? = some (.cells tkZ 51)∧Keep (fun b=>b=rb) w wr
def uis(rb:Nat)(t:Tx)(r:Rv)(w:World)(MB:Nat)(m:Nat→Bool)(j lo hi:Nat)(v:Value)(wr:World):Prop :=
 ∃k:Nat,lo≤k∧k≤hi+1∧v=.int .i64 (k:Nat)∧RB rb t r j wr∧wr.rowIs MB 138 256 (fun b=>.bool (yn m lo k b))∧wr.heap[w.heap.size]? = some (.cells tkZ 51)∧Keep (fun b=>b=rb) w wr
theorem ub7{rb MB R:Nat}{wr W:World}{f:Nat→Value}{x:Obj}(k:Keep (fun b=>b=rb) wr W)(h1:wr.rowIs MB 138 256 f)(h2:wr.heap[R]? = some x)(n1:MB≠rb)(n2:R≠rb):W.rowIs MB 138 256 f∧W.heap[R]? = some x :=
 ⟨h1.of_block (k.block MB h1.lt n1),(k.block R (Array.getElem?_eq_some_iff.1 h2).1 n2).trans h2⟩
theorem udi(x:Int)(w:World)(h0:0≤x)(h1:x≤255):(convert 5 3 (.int .u8 x)).run Tryz.prog w=.ok (.int .i64 x) w:=by
 have e:IntKind.i64.wrap x=x:=ume h0 (by omega)
 simp[convert,run_underlying Tryz.underlying5,run_underlying Tryz.underlying3,go_sem,e]
set_option maxHeartbeats 8000000 in
set_option maxRecDepth 100000 in
theorem ueq(rb:Nat)(t:Tx)(r:Rv)(i:Nat)(w:World)(hB:RB rb t r i w)(hT:TxQ rb w r.ta t)(hi:i<t.n) :
  Calls Tryz.prog 68 #[.pointer (some ⟨rb,0,none⟩)] w (ScC (qX t i) i rb t r w):=by
 have hn:=t.le;have HB:Hid (RB rb t r i w):=hB;have HT:Hid (TxQ rb w r.ta t):=hT;have hrb:rb<w.heap.size:=hB.lt;clear hB hT;have c1:w.cell? ⟨rb,1,none⟩=some (.int .i64 (i:Nat)):=ud HB.out rfl;have f1:w.frozen? ⟨rb,1,none⟩=false:=ut HB.out;have hz:=(zero_of_info (P:=Tryz.prog) um7).1;obtain⟨R,hR⟩:∃R,qX t i=R:=⟨_,rfl⟩;rw[hR];have HR:Hid (umc (ugS t i) (yJ t (t.n+2-i) (uao t i) (fun _=>false))=R):=hR
 clear hR;go_enter Tryz.func68,Tryz.ntmps68;go_wp2_with fail;obtain⟨W0,hW0⟩:∃W0,W0=(w.setCell ⟨rb,1,none⟩ (.int .i64 ((i:Int)+1))).alloc (.cells tkZ 51):=⟨_,rfl⟩;have HK0:Hid (Keep (fun b=>b=rb) w W0):=by rw[hW0];exact (yO (Keep.refl _ w) _ _).trans (Keep.alloc _ _ _)
 have HB0:Hid (RB rb t r (i+1) W0):=by rw[hW0];exact (HB.out.set (i+1) (by simp)).keep (Keep.alloc _ _ _)
 have HZ0:Hid (W0.heap[w.heap.size]? = some (.cells tkZ 51)):=by rw[hW0];exact yX _ _ _ (by rw[ul])
 rw[←hW0];clear hW0 c1 f1;refine (uaA rb t r (i+1) 94 W0 HB0.out (HT.out.keep HK0.out) hi).mono ?_;rintro e W1 ⟨hk,rfl,hB1⟩;have hbg:(if i+1<t.n∧t.T (i+1)=94 then i+1+1 else i+1)=uao t i:=by
  unfold uao ugS;by_cases h:i+1<t.n∧t.T (i+1)=94
  ·rw[if_pos h,if_pos (decide_eq_true h)]
  ·rw[if_neg h,if_neg (by rw[decide_eq_false h];decide)]
 rw[hbg]at hB1;have hbl:uao t i≤t.n∧t.n-uao t i<t.n+2-i:=by
  rw[←hbg];split
  ·rename_i h;omega
  ·omega
 have hneg:decide (i+1<t.n∧t.T (i+1)=94)=ugS t i:=rfl;rw[hneg];have HB1:Hid (RB rb t r (uao t i) W1):=hB1;have HK1:Hid (Keep (fun b=>b=rb) w W1):=HK0.out.trans hk
 have HZ1:Hid (W1.heap[w.heap.size]? = some (.cells tkZ 51)):=(hk.block w.heap.size (Array.getElem?_eq_some_iff.1 HZ0.out).1 (by show ¬w.heap.size=rb;omega)).trans HZ0.out
 clear hk hB1 hbg hneg;generalize ugS t i=neg at *;generalize uao t i=j0 at *;obtain⟨RR,hRR⟩:∃RR,yJ t (t.n+2-i) j0 (fun _=>false)=RR:=⟨_,rfl⟩
 rw[hRR]at HR;have HRR:Hid (yJ t (t.n+2-i) j0 (fun _=>false)=RR):=hRR
 clear hRR;go_wp2;obtain⟨W2,hW2⟩:∃W2,W2=W1.alloc (.cells (madeCells #[.bool false] 256) 138):=⟨_,rfl⟩;have HB2:Hid (RB rb t r j0 W2):=by rw[hW2];exact HB1.out.keep (Keep.alloc _ _ _)
 have HK2:Hid (Keep (fun b=>b=rb) w W2):=by rw[hW2];exact HK1.out.trans (Keep.alloc _ _ _)
 have HZ2:Hid (W2.heap[w.heap.size]? = some (.cells tkZ 51)):=by rw[hW2];exact ufQ HZ1.out _
 have HM2:Hid (W2.rowIs W1.heap.size 138 256 (fun b=>.bool ((fun _=>false) b))):=by rw[hW2];exact World.rowIs_made W1 _ 256 138
 have hMB:w.heap.size<W1.heap.size:=(Array.getElem?_eq_some_iff.1 HZ1.out).1;rw[←hW2];clear hW2 hz;generalize W1.heap.size=MB at *;have hMr:MB≠rb:=by omega
 have hRr:w.heap.size≠rb:=by omega
 go_loopw [25] (uoJ rb t r w MB RR) (fun _ wr=>t.n+1-jr rb wr)
 case atStart=>exact⟨t.n+2-i,j0,fun _=>false,hbl.1,hbl.2,HRR.out,HB2.out,HM2.out,HZ2.out,HK2.out⟩
 case round =>
  obtain⟨f,j,m,hj,hf,hF,hB,hM,hZ,hK⟩:=hrel;obtain⟨f,rfl⟩:∃q,f=q+1:=⟨f-1,by omega⟩
  have HF:Hid ((if j<t.n∧t.T j=93 then some (m,j) else match chM t j true with
   |none=>none
   |some (lo,j1)=>if j1<t.n∧t.T j1=45 then (match chM t (j1+1) true with | none=>none | some (hi,j2)=>if hi<lo then none else yJ t f j2 (yn m lo.toNat (hi.toNat+1))) else yJ t f j1 (yn m lo.toNat (lo.toNat+1)))=RR):=by
   rw[←uju];exact hF
  have HM:Hid (wr.rowIs MB 138 256 (fun b=>.bool (m b))):=hM
  have HZ:Hid (wr.heap[w.heap.size]? = some (.cells tkZ 51)):=hZ;have HK:Hid (Keep (fun b=>b=rb) w wr):=hK
  have HAT:Hid (jr rb wr=j):=hB.at_;have hsk:=uaA rb t r j 93 wr hB (HT.out.keep hK) hj;clear hF hB hM hZ hK HRR HB0 HZ0 HB1 HZ1 HB2 HZ2 HM2 HK0 HK1 HK2;by_cases hq:j<t.n∧t.T j=93
  ·rw[decide_eq_true hq,if_pos hq]at hsk
   have HE:Hid (RR=some (m,j)):=by
    have h:=HF.out;rw[if_pos hq]at h;exact h.symm
   clear HF hq;go_wp2_with fail;refine hsk.mono ?_;clear hsk;rintro e W ⟨hk,rfl,hB'⟩;obtain⟨hMW,hZW⟩:=ub7 hk HM.out HZ.out hMr hRr;have HBW:Hid (RB rb t r (j+1) W):=hB';have HKW:Hid (Keep (fun b=>b=rb) w W):=HK.out.trans hk
   have HZW:Hid (W.heap[w.heap.size]? = some (.cells tkZ 51)):=hZW;obtain⟨arr,harr,hsz,hcell⟩:=hMW;have HARR:Hid (W.heap[MB]? = some (.cells arr 138)):=harr;have HSZ:Hid (arr.size=256):=hsz;have HRO:Hid (Calls Tryz.prog 88 #[.agg arr,.bool (!neg)] W (ufu (rg (fun b=>m b != neg) 256) W)):=ufv (!neg) arr (fun b=>m b != neg) W hsz (fun i hi=>by
    rw[hcell i hi];show some (Value.bool (m i))=some (Value.bool ((m i != neg) == !neg));cases neg<;>cases m i<;>rfl)
   have HRE:Hid (R=some (rg (fun b=>m b != neg) 256,j+1)):=by
    show _=_;rw[←HR.out,HE.out,umc]
   clear hk hB' hZW harr hsz hcell;generalize rg (fun b=>m b != neg) 256=L at *
   go_wp2_with fail;refine wp_load_mid 138 (.tmp 5) rfl MB 0 rfl arr.toList (.array 256 4) (fun j v hv=>?_) Tryz.underlying138 rfl (by rw[Array.length_toList,HSZ.out];exact uix) ?_
   ·rw[Nat.zero_add]
    exact ud HARR.out (by simpa using hv)
   rw[Array.toArray_toList];go_wp2_with fail;refine HRO.out.mono ?_;clear HRO;rintro e W4 ⟨sa,sc,rfl,hOL,hSoft⟩;obtain⟨P,hown,hP,hbel⟩:=hOL;have HK4:Hid (Keep (fun b=>b=rb) w W4):=HKW.out.trans (Keep.of_below hbel (fun k hk _=>hk))
   have HB4:Hid (RB rb t r (j+1) W4):=(hbel.block rb HBW.out.lt).trans HBW.out;have hlR:w.heap.size<W.heap.size:=(Array.getElem?_eq_some_iff.1 HZW.out).1;have cR:W4.heap[w.heap.size]? = some (.cells tkZ 51):=(hbel.block w.heap.size hlR).trans HZW.out;have HOW:Hid (OwnC (fun b=>W.heap.size≤b∧b<W4.heap.size) W4 (.slice sa L.length sc) 1 L.length (uz .i64 (lf L) L.length)):=by
    rw[←umd];exact uo hown hP
   have z0:W4.cell? ⟨w.heap.size,0,none⟩=some (.int .u8 0):=ud cR rfl;have z1:W4.cell? ⟨w.heap.size,1,none⟩=some (.int .i64 0):=ud cR rfl;have z2:W4.cell? ⟨w.heap.size,2,none⟩=some (.string ⟨#[]⟩):=ud cR rfl;have z3:W4.cell? ⟨w.heap.size,3,none⟩=some (.slice none 0 0):=ud cR rfl;have g0:W4.frozen? ⟨w.heap.size,0,none⟩=false:=ut cR;have g1:W4.frozen? ⟨w.heap.size,1,none⟩=false:=ut cR;have g2:W4.frozen? ⟨w.heap.size,2,none⟩=false:=ut cR;have g3:W4.frozen? ⟨w.heap.size,3,none⟩=false:=ut cR;have HFI:Hid (∀W',W'=(((W4.setCell ⟨w.heap.size,0,none⟩ (.int .u8 91)).setCell ⟨w.heap.size,1,none⟩ (.int .i64 (i:Nat))).setCell ⟨w.heap.size,2,none⟩ (.string ⟨#[]⟩)).setCell ⟨w.heap.size,3,none⟩ (.slice sa L.length sc)→ScC R i rb t r w (.returned (.agg #[.int .u8 91,.int .i64 (i:Nat),.string ⟨#[]⟩,.slice sa L.length sc])) W'):=fun W' hW'=>by
    subst hW';refine⟨yK (yK (yK (yK HK4.out (Nat.le_refl _)) (Nat.le_refl _)) (Nat.le_refl _)) (Nat.le_refl _),.inl ⟨L,j+1,sa,sc,HRE.out,rfl,(((HB4.out.setX (by omega)).setX (by omega)).setX (by omega)).setX (by omega),?_⟩⟩
    have st:∀(X:World) (o:Nat) (v:Value),OwnC (fun b=>W.heap.size≤b∧b<W4.heap.size) X (.slice sa L.length sc) 1 L.length (uz .i64 (lf L) L.length)→OwnC (fun b=>W.heap.size≤b∧b<W4.heap.size) (X.setCell ⟨w.heap.size,o,none⟩ v) (.slice sa L.length sc) 1 L.length (uz .i64 (lf L) L.length):=fun X o v h=>h.on (fun b hb=>Below.heap_setCell _ _ _ _ (fun e=>by have e':b=w.heap.size:=e;have:=hb.1;omega))
    exact uo (st _ _ _ (st _ _ _ (st _ _ _ (st _ _ _ HOW.out)))) (fun b hb=>⟨by have:=hb.1;omega,by simp only[ul];exact hb.2⟩)
   clear hown hP hbel cR;obtain⟨LN,hLN⟩:∃LN,LN=L.length:=⟨_,rfl⟩;rw[←hLN]at HFI ⊢;clear hLN;go_wp2;refine bodyPost_ret (v:=.agg #[.int .u8 91,.int .i64 (i:Nat),.string ⟨#[]⟩,.slice sa LN sc]) ?_ rfl ?_
   ·simp[results,Tryz.f68,go_sem, *]
   ·exact HFI.out _ rfl
  ·rw[decide_eq_false hq,if_neg hq]at hsk
   have HF2:Hid ((match chM t j true with
    |none=>none
    |some (lo,j1)=>if j1<t.n∧t.T j1=45 then (match chM t (j1+1) true with | none=>none | some (hi,j2)=>if hi<lo then none else yJ t f j2 (yn m lo.toNat (hi.toNat+1))) else yJ t f j1 (yn m lo.toNat (lo.toNat+1)))=RR):=by
    have h:=HF.out;rw[if_neg hq]at h;exact h
   clear HF hq;go_wp2_with fail;refine hsk.mono ?_;clear hsk;rintro e W ⟨hk,rfl,hB'⟩;obtain⟨hMW,hZW⟩:=ub7 hk HM.out HZ.out hMr hRr;have HKW:Hid (Keep (fun b=>b=rb) w W):=HK.out.trans hk
   have HMW:Hid (W.rowIs MB 138 256 (fun b=>.bool (m b))):=hMW
   have HZW:Hid (W.heap[w.heap.size]? = some (.cells tkZ 51)):=hZW;have hch:=jl true rb t r j (i:Nat) W hB' (HT.out.keep HKW.out) hj (fun q=>absurd q (by decide))
   clear hk hB' hMW hZW HM HZ HK;go_wp2_with fail;refine hch.mono ?_;clear hch;rintro e W3 ⟨hk3,⟨lo,j1,hres,rfl,hB3⟩|⟨hres,rfl⟩⟩
   ·have hrg:=ufA hj hres
    have HF3:Hid ((if j1<t.n∧t.T j1=45 then (match chM t (j1+1) true with | none=>none | some (hi,j2)=>if hi<lo then none else yJ t f j2 (yn m lo.toNat (hi.toNat+1))) else yJ t f j1 (yn m lo.toNat (lo.toNat+1)))=RR):=by
     have h:=HF2.out;rw[hres]at h;exact h
    obtain⟨hM3,hZ3⟩:=ub7 hk3 HMW.out HZW.out hMr hRr;have HK3:Hid (Keep (fun b=>b=rb) w W3):=HKW.out.trans hk3
    have HM3:Hid (W3.rowIs MB 138 256 (fun b=>.bool (m b))):=hM3
    have HZ3:Hid (W3.heap[w.heap.size]? = some (.cells tkZ 51)):=hZ3;have hsk:=uaA rb t r j1 45 W3 hB3 (HT.out.keep HK3.out) hrg.2.1;obtain⟨hr1,hr2,hr3,hr4⟩:=hrg;obtain⟨lon,rfl⟩:∃q:Nat,lo=(q:Int):=⟨lo.toNat,by omega⟩
    clear hk3 hB3 hM3 hZ3 hres HF2 HKW HMW HZW;by_cases hq:j1<t.n∧t.T j1=45
    ·rw[decide_eq_true hq,if_pos hq]at hsk
     have HF4:Hid ((match chM t (j1+1) true with | none=>none | some (hi,j2)=>if hi<(lon:Int) then none else yJ t f j2 (yn m lon (hi.toNat+1)))=RR):=by
      have h:=HF3.out;rw[if_pos hq]at h;exact h
     have hj1:j1+1≤t.n:=hq.1;clear HF3 hq;go_wp2_with fail;refine hsk.mono ?_;clear hsk;rintro e W4 ⟨hk4,rfl,hB4⟩;obtain⟨hM4,hZ4⟩:=ub7 hk4 HM3.out HZ3.out hMr hRr;have HK4:Hid (Keep (fun b=>b=rb) w W4):=HK3.out.trans hk4
     have HM4:Hid (W4.rowIs MB 138 256 (fun b=>.bool (m b))):=hM4
     have HZ4:Hid (W4.heap[w.heap.size]? = some (.cells tkZ 51)):=hZ4;have hch:=jl true rb t r (j1+1) (i:Nat) W4 hB4 (HT.out.keep HK4.out) hj1 (fun q=>absurd q (by decide))
     clear hk4 hB4 hM4 hZ4 HK3 HM3 HZ3;go_wp2_with fail;refine hch.mono ?_;clear hch;rintro e W5 ⟨hk5,⟨hi5,j2,hres,rfl,hB5⟩|⟨hres,rfl⟩⟩
     ·have hrg5:=ufA hj1 hres
      obtain⟨hs1,hs2,hs3,hs4⟩:=hrg5;obtain⟨hin,rfl⟩:∃q:Nat,hi5=(q:Int):=⟨hi5.toNat,by omega⟩
      have HF5:Hid ((if (hin:Int)<(lon:Int) then none else yJ t f j2 (yn m lon (hin+1)))=RR):=by
       have h:=HF4.out;rw[hres]at h;exact h
      obtain⟨hM5,hZ5⟩:=ub7 hk5 HM4.out HZ4.out hMr hRr;have HKw:Hid (Keep (fun b=>b=rb) w W5):=HK4.out.trans hk5
      have HMw:Hid (W5.rowIs MB 138 256 (fun b=>.bool (m b))):=hM5
      have HZw:Hid (W5.heap[w.heap.size]? = some (.cells tkZ 51)):=hZ5;have HBw:Hid (RB rb t r j2 W5):=hB5;clear hk5 hB5 hM5 hZ5 hres HF4 HK4 HM4 HZ4;by_cases hgt:(hin:Int)<(lon:Int)
      ·have HN:Hid (RR=none):=by
        have h:=HF5.out;rw[if_pos hgt]at h;exact h.symm
       have hgt':decide ((lon:Int) > (hin:Int))=true:=decide_eq_true hgt;clear HF5;go_wp2;exact⟨rfl,HKw.out,.inr ⟨by rw[←HR.out,HN.out];rfl,rfl⟩⟩
      ·have HN:Hid (yJ t f j2 (yn m lon (hin+1))=RR):=by
        have h:=HF5.out;rw[if_neg hgt]at h;exact h
       have hgt':decide ((lon:Int) > (hin:Int))=false:=decide_eq_false hgt;have hle:lon≤hin:=by omega
       clear HF5;have hcl:∀W,(convert 5 3 (.int .u8 (lon:Int))).run Tryz.prog W=.ok (.int .i64 (lon:Int)) W:=fun W=>udi _ W (by omega) (by omega)
       have hch:∀W,(convert 5 3 (.int .u8 (hin:Int))).run Tryz.prog W=.ok (.int .i64 (hin:Int)) W:=fun W=>udi _ W (by omega) (by omega)
       go_wp2;go_loopw [8] (uis rb t r w MB m j2 lon hin) (fun v _=>hin+1-(intOf v).toNat)
       case atStart=>exact⟨lon,Nat.le_refl _,by omega,rfl,HBw.out,by rw[ugR];exact HMw.out,HZw.out,HKw.out⟩
       case round =>
        obtain⟨k,hk1,hk2,rfl,hB6,hM6,hZ6,hK6⟩:=hrel;have HB6:Hid (RB rb t r j2 wr):=hB6;have HM6:Hid (wr.rowIs MB 138 256 (fun b=>.bool (yn m lon k b))):=hM6
        have HZ6:Hid (wr.heap[w.heap.size]? = some (.cells tkZ 51)):=hZ6;have HK6:Hid (Keep (fun b=>b=rb) w wr):=hK6
        clear hB6 hM6 hZ6 hK6;by_cases hkl:k≤hin
        ·have hk3:(k:Int)≤(hin:Int):=by omega
         have hk4:(k:Int)<256:=by omega
         have hk5:k<256:=by omega
         have mk:=HM6.out.cell (i:=k) hk5;have mf:=HM6.out.frozen k;have HNX:Hid (uis rb t r w MB m j2 lon hin (.int .i64 ((k:Int)+1)) (wr.setCell ⟨MB,k,none⟩ (.bool true))) :=
          ⟨k+1,by omega,by omega,by simp,HB6.out.setX (by omega),((HM6.out.set k (.bool true)).congr (fun b _=>by
           have h:(if b=k then true else yn m lon k b)=yn m lon (k+1) b:=congrFun (ue5 m (lo:=lon) (k:=k) hk1) b
           rw[←h];by_cases e:b=k<;>simp[e])),(Below.heap_setCell _ _ _ _ (fun e=>by have e':w.heap.size=MB:=e;omega)).trans HZ6.out,yK HK6.out (by omega)⟩
         clear HM6 HB6 HZ6 HK6;go_wp2;go_roundw;all_goals first
          |exact HNX.out
          | (simp[intOf];omega)
        ·have hk3:¬(k:Int)≤(hin:Int):=by omega
         obtain rfl:k=hin+1:=by omega
         have HAT6:Hid (jr rb wr=j2):=HB6.out.at_;have HNX:Hid (∀v,uoJ rb t r w MB RR v wr):=fun v=>⟨f,j2,yn m lon (hin+1),hs2,by omega,HN.out,HB6.out,HM6.out,HZ6.out,HK6.out⟩
         go_wp2;go_roundw
         case rel=>exact HNX.out _
         case measure=>rw[HAT6.out,HAT.out];omega
     ·have HN:Hid (RR=none):=by
       have h:=HF4.out;rw[hres]at h;exact h.symm
      have HKw:Hid (Keep (fun b=>b=rb) w W5):=HK4.out.trans hk5
      clear hk5 hres HF4;go_wp2;exact⟨rfl,HKw.out,.inr ⟨by rw[←HR.out,HN.out];rfl,rfl⟩⟩
    ·rw[decide_eq_false hq,if_neg hq]at hsk
     have HN:Hid (yJ t f j1 (yn m lon (lon+1))=RR):=by
      have h:=HF3.out;rw[if_neg hq]at h;exact h
     clear HF3 hq;go_wp2_with fail;refine hsk.mono ?_;clear hsk;rintro e W5 ⟨hk5,rfl,hB5⟩;obtain⟨hM5,hZ5⟩:=ub7 hk5 HM3.out HZ3.out hMr hRr;have HKw:Hid (Keep (fun b=>b=rb) w W5):=HK3.out.trans hk5
     have HMw:Hid (W5.rowIs MB 138 256 (fun b=>.bool (m b))):=hM5
     have HZw:Hid (W5.heap[w.heap.size]? = some (.cells tkZ 51)):=hZ5;have HBw:Hid (RB rb t r j1 W5):=hB5;clear hk5 hB5 hM5 hZ5 HK3 HM3 HZ3;obtain⟨j2,hj2⟩:∃j2,j2=j1:=⟨_,rfl⟩;obtain⟨hin,hhin⟩:∃hin,hin=lon:=⟨_,rfl⟩;have hs2:j2≤t.n:=by omega
     have hs1:j1<j2+1:=by omega
     have hs4:(hin:Int)≤255:=by omega
     have hle:lon≤hin:=by omega
     have hgt':decide ((lon:Int) > (lon:Int))=false:=decide_eq_false (by omega)
     have HN:Hid (yJ t f j2 (yn m lon (hin+1))=RR):=by rw[hj2,hhin];exact HN.out
     rw[←hj2]at HBw;clear hj2;have hcl:∀W,(convert 5 3 (.int .u8 (lon:Int))).run Tryz.prog W=.ok (.int .i64 (lon:Int)) W:=fun W=>udi _ W (by omega) (by omega)
     have hch:∀W,(convert 5 3 (.int .u8 (lon:Int))).run Tryz.prog W=.ok (.int .i64 (lon:Int)) W:=fun W=>udi _ W (by omega) (by omega)
     go_wp2;go_loopw [8] (uis rb t r w MB m j2 lon hin) (fun v _=>hin+1-(intOf v).toNat)
     case atStart=>exact⟨lon,Nat.le_refl _,by omega,rfl,HBw.out,by rw[ugR];exact HMw.out,HZw.out,HKw.out⟩
     case round =>
      obtain⟨k,hk1,hk2,rfl,hB6,hM6,hZ6,hK6⟩:=hrel;have HB6:Hid (RB rb t r j2 wr):=hB6;have HM6:Hid (wr.rowIs MB 138 256 (fun b=>.bool (yn m lon k b))):=hM6
      have HZ6:Hid (wr.heap[w.heap.size]? = some (.cells tkZ 51)):=hZ6;have HK6:Hid (Keep (fun b=>b=rb) w wr):=hK6
      clear hB6 hM6 hZ6 hK6;by_cases hkl:k≤hin
      ·have hk3:(k:Int)≤(lon:Int):=by omega
       have hk4:(k:Int)<256:=by omega
       have hk5:k<256:=by omega
       have mk:=HM6.out.cell (i:=k) hk5;have mf:=HM6.out.frozen k;have HNX:Hid (uis rb t r w MB m j2 lon hin (.int .i64 ((k:Int)+1)) (wr.setCell ⟨MB,k,none⟩ (.bool true))) :=
        ⟨k+1,by omega,by omega,by simp,HB6.out.setX (by omega),((HM6.out.set k (.bool true)).congr (fun b _=>by
         have h:(if b=k then true else yn m lon k b)=yn m lon (k+1) b:=congrFun (ue5 m (lo:=lon) (k:=k) hk1) b
         rw[←h];by_cases e:b=k<;>simp[e])),(Below.heap_setCell _ _ _ _ (fun e=>by have e':w.heap.size=MB:=e;omega)).trans HZ6.out,yK HK6.out (by omega)⟩
       clear HM6 HB6 HZ6 HK6;go_wp2;go_roundw;all_goals first
        |exact HNX.out
        | (simp[intOf];omega)
      ·have hk3:¬(k:Int)≤(lon:Int):=by omega
       obtain rfl:k=hin+1:=by omega
       have HAT6:Hid (jr rb wr=j2):=HB6.out.at_;have HNX:Hid (∀v,uoJ rb t r w MB RR v wr):=fun v=>⟨f,j2,yn m lon (hin+1),hs2,by omega,HN.out,HB6.out,HM6.out,HZ6.out,HK6.out⟩
       go_wp2;go_roundw
       case rel=>exact HNX.out _
       case measure=>rw[HAT6.out,HAT.out];omega
   ·have HN:Hid (RR=none):=by
     have h:=HF2.out;rw[hres]at h;exact h.symm
    have HKw:Hid (Keep (fun b=>b=rb) w W3):=HKW.out.trans hk3
    clear hk3 hres HF2;go_wp2;exact⟨rfl,HKw.out,.inr ⟨by rw[←HR.out,HN.out];rfl,rfl⟩⟩
end
end Go.Proofs.YthicmmhmmfhncaaGreat
