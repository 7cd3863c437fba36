import Derived.Test.YthicmmhmmfhncaaGreatT11
import Derived.Test.YthicmmhmmfhncaaGreatT12
import Derived.Test.YthicmmhmmfhncaaGreatT07
set_option linter.unusedVariables false
set_option linter.unusedSimpArgs false
namespace Go.Proofs.YthicmmhmmfhncaaGreat
section
open Go.RowKit
open M (OpD uj Gr)
def unu(i:Nat):ByteArray:=(⟨#[114]⟩:ByteArray)++(⟨(xC i).toArray⟩:ByteArray)
def uo7(i:Nat):ByteArray:=(⟨#[108]⟩:ByteArray)++(⟨(xC (1000+i)).toArray⟩:ByteArray)
def xm:Nat→List zNL
  |0=>[]
  |k+1=>xm k++[⟨bytesOf (unu k),true,ui (ur 97)⟩]
def xo:Nat→List zNL
  |0=>[]
  |k+1=>xo k++[⟨bytesOf (uo7 k),true,uf 0 0⟩]
theorem ueW(k:Nat):(xm k).length=k:=by
  induction k with
  |zero=>rfl
  |succ k ih=>rw[xm];simp[ih]
theorem ueX(k:Nat):(xo k).length=k:=by
  induction k with
  |zero=>rfl
  |succ k ih=>rw[xo];simp[ih]
theorem uaM(X:World)(s:ByteArray)(z:List Int)(hz:bytesOf s=z):∃na nc B,(convert 9 22 (.string s)).run Tryz.prog X=.ok (.slice na z.length nc) B∧Ints (New X B) .u8 B na z.length (lf z)∧Keep (fun _=>False) X B:=by
  subst hz;obtain⟨na,nc,e,h1,h2⟩:=uiM X s;have hr:=udJ X s;rw[e]at hr;exact⟨na,nc,_,hr,h1,h2⟩
def uqp(gb:Nat)(W0:World)(n:Nat)(iv:Value)(wr:World):Prop :=
  ∃(k:Nat) (G:Nat→Nat) (rs:List zNC) (rv:Value),k≤n∧iv=.int .i64 (k:Int)∧zGVar gb W0 G wr rv (.slice none 0 0) rs []∧rs.map (·.d)=xm k∧Keep (fun b=>b=gb) W0 wr
def mlI(gb:Nat)(W0:World)(m:Nat)(rv:Value)(rs:List zNC)(iv:Value)(wr:World):Prop :=
  ∃(k:Nat) (G:Nat→Nat) (ls:List zNC) (lv:Value),k≤m∧iv=.int .i64 (k:Int)∧zGVar gb W0 G wr rv lv rs ls∧ls.map (·.d)=xo k∧Keep (fun b=>b=gb) W0 wr
def DrM(rs ls:List zNL)(w:World)(e:Ending)(w':World):Prop :=
  ∃rv lv G RS LS,e=.returned (.agg #[rv,lv])∧zGrP w G w' rv lv RS LS∧RS.map (·.d)=rs∧LS.map (·.d)=ls∧Keep (fun _=>False) w w'
theorem uaN{gb tt o:Nat}{W0 wr W2 W4:World}{G:Nat→Nat}{rv lv v:Value}{rs ls:List zNC}(h:zGVar gb W0 G W2 rv lv rs ls)(htt:tt≠3)(kr:Keep (fun b=>b=gb) W0 wr)(k:Keep (fun _=>False) wr W2)(g4:Grew (zTg G W2 tt) W2 W4):Keep (fun b=>b=gb) W0 (W4.setCell ⟨gb,o,none⟩ v):=by
  have hnew:∀b,zTg G W2 tt b→W0.heap.size≤b:=fun b q=>h.gr.new b (by rw[q.2];exact htt)
  have kk:Keep (fun b=>b=gb) W0 W2:=kr.trans (k.mono (fun b q=>q.elim))
  have k4:Keep (fun b=>b=gb) W0 W4:=⟨g4.os.trans kk.os,g4.tape.trans kk.tape,g4.output.trans kk.output,Nat.le_trans kk.size g4.size,fun b hb hn=>(g4.block b (Nat.lt_of_lt_of_le hb kk.size) (fun q=>by have:=hnew b q;omega)).trans (kk.block b hb hn)⟩
  exact k4.trans (Keep.setCell _ _ _ rfl)
set_option maxRecDepth 100000 in
set_option maxHeartbeats 40000000 in
theorem uam(n m:Nat)(hn:n≤200)(hm:m≤200)(w:World):Calls Tryz.prog 53 #[.int .i64 (n:Int),.int .i64 (m:Int)] w (DrM (xm n) (xo m) w):=by
  go_enter Tryz.func53,Tryz.ntmps53;go_wp2_with fail;have HTW:Hid (zTwo w.heap.size ((w.alloc (.cells #[.slice none 0 0,.slice none 0 0] 26)).alloc (.cells #[.slice none 0 0,.slice none 0 0] 26))):=(ja w).keep (Keep.alloc (fun _=>False) _ _) (fun e=>e)
  have HIN:Hid (zGVar (w.heap.size+1) ((w.alloc (.cells #[.slice none 0 0,.slice none 0 0] 26)).alloc (.cells #[.slice none 0 0,.slice none 0 0] 26)) (fun _=>3) ((w.alloc (.cells #[.slice none 0 0,.slice none 0 0] 26)).alloc (.cells #[.slice none 0 0,.slice none 0 0] 26)) (.slice none 0 0) (.slice none 0 0) [] []):=by
    have h:=udG (w.alloc (.cells #[.slice none 0 0,.slice none 0 0] 26)) (t:=26);simp only[World.size_alloc]at h;exact h
  have hgb0:w.heap.size+1<((w.alloc (.cells #[.slice none 0 0,.slice none 0 0] 26)).alloc (.cells #[.slice none 0 0,.slice none 0 0] 26)).heap.size:=by simp
  have HKW:Hid (Keep (fun _=>False) w ((w.alloc (.cells #[.slice none 0 0,.slice none 0 0] 26)).alloc (.cells #[.slice none 0 0,.slice none 0 0] 26))):=(Keep.alloc _ _ _).trans (Keep.alloc _ _ _)
  generalize (w.alloc (.cells #[.slice none 0 0,.slice none 0 0] 26)).alloc (.cells #[.slice none 0 0,.slice none 0 0] 26)=W0 at *;obtain⟨gb,hgb⟩:∃x,w.heap.size+1=x:=⟨_,rfl⟩;rw[hgb]at HIN hgb0;rw[hgb];have hgb':w.heap.size<gb:=by omega
  clear hgb;go_loopw [6] (fun iv wr=>uqp gb W0 n iv wr) (fun iv _=>n-(intOf iv).toNat)
  case atStart=>exact⟨0,_,[],_,Nat.zero_le _,rfl,HIN.out,rfl,Keep.refl _ _⟩
  case round =>
    obtain⟨k,G,rs,rv,hk,rfl,hg,hrs,hkeep⟩:=hrel;have HG:Hid (zGVar gb W0 G wr rv (.slice none 0 0) rs []):=hg;have HRS:Hid (rs.map (·.d)=xm k):=hrs
    have HKP:Hid (Keep (fun b=>b=gb) W0 wr):=hkeep
    have HLEN:Hid (rs.length=k):=by
      show rs.length=k;rw[←List.length_map (f:=(·.d)),hrs,ueW]
    have c0:=hg.c0;have hgl:gb<wr.heap.size:=hg.lt;clear hg hrs hkeep;by_cases hlt:k<n
    · have hlt':(k:Int)<(n:Int):=by omega
      have hdl:=qH k;have hdc:=uiO k (by omega) wr
      obtain⟨y,hy⟩:∃y:ByteArray,(⟨(xC k).toArray⟩:ByteArray)=y:=⟨_,rfl⟩;have hys:y.size≤300:=by
        rw[←hy];show (xC k).length≤300;omega
      rw[hy]at hdc;have HDC:Hid (Calls Tryz.prog 82 #[.int .i64 (k:Int)] wr (fun e w'=>e=.returned (.string y)∧wr=w')):=hdc.mono (fun e w' h=>⟨h.1,h.2.symm⟩)
      have hs1:¬(9223372036854775807<(⟨#[114]⟩:ByteArray).size+y.size):=by
        show ¬(9223372036854775807<1+y.size);omega
      have hs2:¬(9223372036854775807<1+y.size):=by omega
      obtain⟨s,hs⟩:∃s:ByteArray,(⟨#[114]⟩:ByteArray)++y=s:=⟨_,rfl⟩;obtain⟨z,hz⟩:∃z,bytesOf s=z:=⟨_,rfl⟩;have HZ:Hid (bytesOf s=z):=hz;have HSU:Hid (xm (k+1)=xm k++[⟨z,true,ui (ur 97)⟩]):=by
        show xm (k+1)=_;rw[xm,unu,hy,hs,hz]
      clear hdc hy hdl hz;go_wp2_with fail;refine Calls.mono HDC.out ?_;rintro e w1 ⟨rfl,rfl⟩;go_wp2_with fail;obtain⟨na0,nc0,B0,hcv0,hin0,hkn0⟩:=uaM wr.drew s z HZ.out;have HIN0:Hid (Ints (New wr.drew B0) .u8 B0 na0 z.length (lf z)):=hin0;have HKN0:Hid (Keep (fun _=>False) wr.drew B0):=hkn0
      clear hin0 hkn0;have y0:B0.cell? ⟨gb,0,none⟩=some rv:=(HG.out.later ((Keep.drew _ _).trans HKN0.out) (fun _ e=>e.elim) 3).c0
      have yl0:=ub y0;go_region_law
        (first
          | (refine yZ uc9 rfl (.const (.int .i64 97)) 3 rfl (y1:=.int .i64 97) rfl ((uL 97 wr.drew).mono ?_)
             rintro e V1 ⟨rfl,hA⟩;have K1:Hid (Keep (fun _=>False) wr.drew V1):=hA▸Keep.alloc _ _ _
             have I1:Hid (Ints (fun _=>True) .i64 V1 (some ⟨wr.drew.heap.size,0,none⟩) (ur 97).length (lf (ur 97))):=hA▸xO _ 97 97 3
             have z1:V1.cell? ⟨gb,0,none⟩=some rv:=(HG.out.later ((Keep.drew _ _).trans K1.out) (fun _ e=>e.elim) 3).c0
             have z1l:=ub z1;obtain⟨na1,nc1,B1,hcv1,hin1,hkn1⟩:=uaM V1 s z HZ.out;have HIN1:Hid (Ints (New V1 B1) .u8 B1 na1 z.length (lf z)):=hin1;have HKN1:Hid (Keep (fun _=>False) V1 B1):=hkn1
             clear hin1 hkn1;have zb1:B1.cell? ⟨gb,0,none⟩=some rv:=(HG.out.later (((Keep.drew _ _).trans K1.out).trans HKN1.out) (fun _ e=>e.elim) 3).c0
             have zb1l:=ub zb1;clear hA;refine⟨_,rfl,?_⟩)
          | (refine yZ uc9 rfl (.const (.int .i64 97)) 3 rfl (y1:=.int .i64 97) rfl ((uL 97 B0).mono ?_)
             rintro e V1 ⟨rfl,hA⟩;have K1:Hid (Keep (fun _=>False) B0 V1):=hA▸Keep.alloc _ _ _
             have I1:Hid (Ints (fun _=>True) .i64 V1 (some ⟨B0.heap.size,0,none⟩) (ur 97).length (lf (ur 97))):=hA▸xO _ 97 97 3
             have HNa:Hid (Ints (New wr.drew B0) .u8 V1 na0 z.length (lf z)):=HIN0.out.later K1.out.bel;have z1:V1.cell? ⟨gb,0,none⟩=some rv:=(HG.out.later (((Keep.drew _ _).trans HKN0.out).trans K1.out) (fun _ e=>e.elim) 3).c0
             have z1l:=ub z1;clear hA;refine⟨_,rfl,?_⟩)
          | (have _chk:=HNa.out;refine yZ uaL rfl (.tmp 22) 49 rfl (y1:=.slice (some ⟨B0.heap.size,0,none⟩) 2 2) (by simp[Act.eval,Act.put]) ((uU (fun _=>True) (some ⟨B0.heap.size,0,none⟩) 2 (ur 97) V1 I1.out (by simp[ur])).mono ?_)
             rintro e V2 ⟨a2,c2,rfl,hbod,hkk⟩;have K2:Hid (Keep (fun _=>False) V1 V2):=hkk
             have HB2:Hid (BodP (New V1 V2) V2 (.slice a2 (ui (ur 97)).length c2) (ui (ur 97))):=hbod;have HNb:Hid (Ints (New wr.drew B0) .u8 V2 na0 z.length (lf z)):=HNa.out.later hkk.bel;have z2:V2.cell? ⟨gb,0,none⟩=some rv:=(HG.out.later ((((Keep.drew _ _).trans HKN0.out).trans K1.out).trans hkk) (fun _ e=>e.elim) 3).c0
             have z2l:=ub z2;clear hbod hkk;refine⟨_,rfl,?_⟩)
          | (refine yZ uaL rfl (.tmp 22) 49 rfl (y1:=.slice (some ⟨wr.drew.heap.size,0,none⟩) 2 2) (by simp[Act.eval,Act.put]) ((uU (fun _=>True) (some ⟨wr.drew.heap.size,0,none⟩) 2 (ur 97) V1 I1.out (by simp[ur])).mono ?_)
             rintro e V2 ⟨a2,c2,rfl,hbod,hkk⟩;have K2:Hid (Keep (fun _=>False) V1 V2):=hkk
             have HB2:Hid (BodP (New V1 V2) V2 (.slice a2 (ui (ur 97)).length c2) (ui (ur 97))):=hbod;have z2:V2.cell? ⟨gb,0,none⟩=some rv:=(HG.out.later (((Keep.drew _ _).trans K1.out).trans hkk) (fun _ e=>e.elim) 3).c0
             have z2l:=ub z2;obtain⟨na2,nc2,B2,hcv2,hin2,hkn2⟩:=uaM V2 s z HZ.out;have HIN2:Hid (Ints (New V2 B2) .u8 B2 na2 z.length (lf z)):=hin2;have HKN2:Hid (Keep (fun _=>False) V2 B2):=hkn2
             clear hin2 hkn2;have zb2:B2.cell? ⟨gb,0,none⟩=some rv:=(HG.out.later ((((Keep.drew _ _).trans K1.out).trans hkk).trans HKN2.out) (fun _ e=>e.elim) 3).c0
             have zb2l:=ub zb2;clear hbod hkk;refine⟨_,rfl,?_⟩)
          | (refine yZ uaL rfl (.tmp 22) 49 rfl (y1:=.slice (some ⟨wr.drew.heap.size,0,none⟩) 2 2) (by simp[Act.eval,Act.put]) ((uU (fun _=>True) (some ⟨wr.drew.heap.size,0,none⟩) 2 (ur 97) B1 (I1.out.later HKN1.out.bel) (by simp[ur])).mono ?_)
             rintro e V2 ⟨a2,c2,rfl,hbod,hkk⟩;have K2:Hid (Keep (fun _=>False) B1 V2):=hkk
             have HB2:Hid (BodP (New B1 V2) V2 (.slice a2 (ui (ur 97)).length c2) (ui (ur 97))):=hbod;have HNc:Hid (Ints (New V1 B1) .u8 V2 na1 z.length (lf z)):=HIN1.out.later hkk.bel;have z2:V2.cell? ⟨gb,0,none⟩=some rv:=(HG.out.later ((((Keep.drew _ _).trans K1.out).trans HKN1.out).trans hkk) (fun _ e=>e.elim) 3).c0
             have z2l:=ub z2;clear hbod hkk;refine⟨_,rfl,?_⟩)
          | (have HM:Hid (∃G',(∀b,b<wr.heap.size→G' b=G b)∧zGVar gb W0 G' (V2.alloc (.cells #[.slice na0 z.length nc0,.slice a2 (ui (ur 97)).length c2] 39)) rv (.slice none 0 0) rs []∧Ints (zTg G' (V2.alloc (.cells #[.slice na0 z.length nc0,.slice a2 (ui (ur 97)).length c2] 39)) 2) .u8 (V2.alloc (.cells #[.slice na0 z.length nc0,.slice a2 (ui (ur 97)).length c2] 39)) na0 z.length (lf z)∧BodP (zTg G' (V2.alloc (.cells #[.slice na0 z.length nc0,.slice a2 (ui (ur 97)).length c2] 39)) (4+2*rs.length)) (V2.alloc (.cells #[.slice na0 z.length nc0,.slice a2 (ui (ur 97)).length c2] 39)) (.slice a2 (ui (ur 97)).length c2) (ui (ur 97))):=xI (N:=New wr.drew B0) (B:=New V1 V2) (4+2*rs.length) HG.out (((((Keep.drew _ wr).trans HKN0.out).trans K1.out).trans K2.out).trans (Keep.alloc _ _ _)) (HNb.out.later (up V2 _)) (HB2.out.on (fun x y=>Below.heap_alloc V2 _ _ (y.2))) (fun x y=>⟨y.1,by have h1:=y.2;have h2:=K1.out.size;have h3:=K2.out.size;simp;omega⟩) (fun x y=>⟨by have h1:=y.1;have h2:=K1.out.size;have h3:wr.heap.size≤B0.heap.size:=HKN0.out.size;omega,by have h1:=y.2;simp;omega⟩) (fun x y y'=>by have h1:=y.2;have h2:=y'.1;have h3:=K1.out.size;omega)
             obtain⟨G2,hold,hg2,hn2,hb2⟩:=HM.out;refine kE rfl (.tmp 19) (.tmp 25) 23 23 rfl (v:=rv) (y:=.slice (some ⟨V2.heap.size,0,none⟩) 1 1) (by simp[Act.eval,Act.put]) (by simp[Act.eval,Act.put]) uae (Q:=zTg G2 (V2.alloc (.cells #[.slice na0 z.length nc0,.slice a2 (ui (ur 97)).length c2] 39)) 0) (n:=rs.length) (cs:=rs.flatMap vF) (news:=vF ⟨⟨z,true,ui (ur 97)⟩,na0,nc0,a2,c2⟩) hg2.gr.rules (jx (x:=⟨⟨z,true,ui (ur 97)⟩,na0,nc0,a2,c2⟩) (World.alloc_heap_new V2 _)) (by have:=HLEN.out;omega) ?_
             intro v6 W6 hown hgrew hsz;obtain⟨y1,_,y2,_⟩:=vf hg2 (by omega) hgrew
             have HE:Hid (∃xa xc xb xd G',zGVar gb W0 G' (W6.setCell ⟨gb,0,none⟩ v6) v6 (.slice none 0 0) (rs++[⟨⟨z,true,ui (ur 97)⟩,xa,xc,xb,xd⟩]) []):=⟨_,_,_,_,uaI (x:=⟨⟨z,true,ui (ur 97)⟩,na0,nc0,a2,c2⟩) hg2 hn2 hb2 hown hgrew⟩;have HF:Hid (Keep (fun b=>b=gb) W0 (W6.setCell ⟨gb,0,none⟩ v6)):=uaN hg2 (by omega) HKP.out (((((Keep.drew _ wr).trans HKN0.out).trans K1.out).trans K2.out).trans (Keep.alloc _ _ _)) hgrew
             obtain⟨a6,c6,rfl⟩:=um hown;clear hown hgrew hsz hold hg2 hn2 hb2 HM)
          | (have HM:Hid (∃G',(∀b,b<wr.heap.size→G' b=G b)∧zGVar gb W0 G' (B2.alloc (.cells #[.slice na2 z.length nc2,.slice a2 (ui (ur 97)).length c2] 39)) rv (.slice none 0 0) rs []∧Ints (zTg G' (B2.alloc (.cells #[.slice na2 z.length nc2,.slice a2 (ui (ur 97)).length c2] 39)) 2) .u8 (B2.alloc (.cells #[.slice na2 z.length nc2,.slice a2 (ui (ur 97)).length c2] 39)) na2 z.length (lf z)∧BodP (zTg G' (B2.alloc (.cells #[.slice na2 z.length nc2,.slice a2 (ui (ur 97)).length c2] 39)) (4+2*rs.length)) (B2.alloc (.cells #[.slice na2 z.length nc2,.slice a2 (ui (ur 97)).length c2] 39)) (.slice a2 (ui (ur 97)).length c2) (ui (ur 97))):=xI (N:=New V2 B2) (B:=New V1 V2) (4+2*rs.length) HG.out (((((Keep.drew _ wr).trans K1.out).trans K2.out).trans HKN2.out).trans (Keep.alloc _ _ _)) (HIN2.out.later (up B2 _)) ((HB2.out.on (fun x y=>HKN2.out.block x y.2 (fun e=>e))).on (fun x y=>Below.heap_alloc B2 _ _ (by have h1:=y.2;have h2:=HKN2.out.size;omega))) (fun x y=>⟨by have h1:=y.1;have h2:wr.heap.size≤V1.heap.size:=K1.out.size;have h3:=K2.out.size;omega,by have h1:=y.2;simp;omega⟩) (fun x y=>⟨by have h1:=y.1;have h2:wr.heap.size≤V1.heap.size:=K1.out.size;omega,by have h1:=y.2;have h2:=HKN2.out.size;simp;omega⟩) (fun x y y'=>by have h1:=y.1;have h2:=y'.2;omega)
             obtain⟨G2,hold,hg2,hn2,hb2⟩:=HM.out;refine kE rfl (.tmp 19) (.tmp 25) 23 23 rfl (v:=rv) (y:=.slice (some ⟨B2.heap.size,0,none⟩) 1 1) (by simp[Act.eval,Act.put]) (by simp[Act.eval,Act.put]) uae (Q:=zTg G2 (B2.alloc (.cells #[.slice na2 z.length nc2,.slice a2 (ui (ur 97)).length c2] 39)) 0) (n:=rs.length) (cs:=rs.flatMap vF) (news:=vF ⟨⟨z,true,ui (ur 97)⟩,na2,nc2,a2,c2⟩) hg2.gr.rules (jx (x:=⟨⟨z,true,ui (ur 97)⟩,na2,nc2,a2,c2⟩) (World.alloc_heap_new B2 _)) (by have:=HLEN.out;omega) ?_
             intro v6 W6 hown hgrew hsz;obtain⟨y1,_,y2,_⟩:=vf hg2 (by omega) hgrew
             have HE:Hid (∃xa xc xb xd G',zGVar gb W0 G' (W6.setCell ⟨gb,0,none⟩ v6) v6 (.slice none 0 0) (rs++[⟨⟨z,true,ui (ur 97)⟩,xa,xc,xb,xd⟩]) []):=⟨_,_,_,_,uaI (x:=⟨⟨z,true,ui (ur 97)⟩,na2,nc2,a2,c2⟩) hg2 hn2 hb2 hown hgrew⟩;have HF:Hid (Keep (fun b=>b=gb) W0 (W6.setCell ⟨gb,0,none⟩ v6)):=uaN hg2 (by omega) HKP.out (((((Keep.drew _ wr).trans K1.out).trans K2.out).trans HKN2.out).trans (Keep.alloc _ _ _)) hgrew
             obtain⟨a6,c6,rfl⟩:=um hown;clear hown hgrew hsz hold hg2 hn2 hb2 HM)
          | (have HM:Hid (∃G',(∀b,b<wr.heap.size→G' b=G b)∧zGVar gb W0 G' (V2.alloc (.cells #[.slice na1 z.length nc1,.slice a2 (ui (ur 97)).length c2] 39)) rv (.slice none 0 0) rs []∧Ints (zTg G' (V2.alloc (.cells #[.slice na1 z.length nc1,.slice a2 (ui (ur 97)).length c2] 39)) 2) .u8 (V2.alloc (.cells #[.slice na1 z.length nc1,.slice a2 (ui (ur 97)).length c2] 39)) na1 z.length (lf z)∧BodP (zTg G' (V2.alloc (.cells #[.slice na1 z.length nc1,.slice a2 (ui (ur 97)).length c2] 39)) (4+2*rs.length)) (V2.alloc (.cells #[.slice na1 z.length nc1,.slice a2 (ui (ur 97)).length c2] 39)) (.slice a2 (ui (ur 97)).length c2) (ui (ur 97))):=xI (N:=New V1 B1) (B:=New B1 V2) (4+2*rs.length) HG.out (((((Keep.drew _ wr).trans K1.out).trans HKN1.out).trans K2.out).trans (Keep.alloc _ _ _)) (HNc.out.later (up V2 _)) (HB2.out.on (fun x y=>Below.heap_alloc V2 _ _ (y.2))) (fun x y=>⟨by have h1:=y.1;have h2:wr.heap.size≤V1.heap.size:=K1.out.size;omega,by have h1:=y.2;have h2:=K2.out.size;simp;omega⟩) (fun x y=>⟨by have h1:=y.1;have h2:wr.heap.size≤V1.heap.size:=K1.out.size;have h3:=HKN1.out.size;omega,by have h1:=y.2;simp;omega⟩) (fun x y y'=>by have h1:=y.2;have h2:=y'.1;omega)
             obtain⟨G2,hold,hg2,hn2,hb2⟩:=HM.out;refine kE rfl (.tmp 19) (.tmp 25) 23 23 rfl (v:=rv) (y:=.slice (some ⟨V2.heap.size,0,none⟩) 1 1) (by simp[Act.eval,Act.put]) (by simp[Act.eval,Act.put]) uae (Q:=zTg G2 (V2.alloc (.cells #[.slice na1 z.length nc1,.slice a2 (ui (ur 97)).length c2] 39)) 0) (n:=rs.length) (cs:=rs.flatMap vF) (news:=vF ⟨⟨z,true,ui (ur 97)⟩,na1,nc1,a2,c2⟩) hg2.gr.rules (jx (x:=⟨⟨z,true,ui (ur 97)⟩,na1,nc1,a2,c2⟩) (World.alloc_heap_new V2 _)) (by have:=HLEN.out;omega) ?_
             intro v6 W6 hown hgrew hsz;obtain⟨y1,_,y2,_⟩:=vf hg2 (by omega) hgrew
             have HE:Hid (∃xa xc xb xd G',zGVar gb W0 G' (W6.setCell ⟨gb,0,none⟩ v6) v6 (.slice none 0 0) (rs++[⟨⟨z,true,ui (ur 97)⟩,xa,xc,xb,xd⟩]) []):=⟨_,_,_,_,uaI (x:=⟨⟨z,true,ui (ur 97)⟩,na1,nc1,a2,c2⟩) hg2 hn2 hb2 hown hgrew⟩;have HF:Hid (Keep (fun b=>b=gb) W0 (W6.setCell ⟨gb,0,none⟩ v6)):=uaN hg2 (by omega) HKP.out (((((Keep.drew _ wr).trans K1.out).trans HKN1.out).trans K2.out).trans (Keep.alloc _ _ _)) hgrew
             obtain⟨a6,c6,rfl⟩:=um hown;clear hown hgrew hsz hold hg2 hn2 hb2 HM))
      all_goals go_goals
      all_goals go_wp2
      all_goals go_roundw
      all_goals first
        | (obtain⟨xa,xc,xb,xd,G',h'⟩:=HE.out
           exact⟨k+1,G',_,_,hlt,rfl,h',by rw[List.map_append,HRS.out,HSU.out];rfl,HF.out⟩)
        | (simp[intOf];omega)
    · obtain rfl:k=n:=by omega
      clear hlt;obtain⟨wa,hwa⟩:∃x,x=wr:=⟨_,rfl⟩;subst hwa;go_wp2_with fail;go_loopw [8] (fun iv wr=>mlI gb W0 m rv rs iv wr) (fun iv _=>m-(intOf iv).toNat)
      case atStart=>exact⟨0,G,[],_,Nat.zero_le _,rfl,HG.out,rfl,HKP.out⟩
      case round =>
        obtain⟨j,G1,ls,lv,hj,rfl,hg1,hls,hkeep1⟩:=hrel;clear HG HKP HLEN c0 hgl;obtain⟨G,hGG⟩:∃x,x=G1:=⟨_,rfl⟩;subst hGG;have HG:Hid (zGVar gb W0 G wr rv lv rs ls):=hg1;have HLS:Hid (ls.map (·.d)=xo j):=hls
        have HKP:Hid (Keep (fun b=>b=gb) W0 wr):=hkeep1
        have HLEN:Hid (ls.length=j):=by
          show ls.length=j;rw[←List.length_map (f:=(·.d)),hls,ueX]
        have c1:=hg1.c1;have c0:=hg1.c0;have hgl:gb<wr.heap.size:=hg1.lt;clear hg1 hls hkeep1;by_cases hlt:j<m
        · have hlt':(j:Int)<(m:Int):=by omega
          have hdl:=qH (1000+j);have hdc:=uiO (1000+j) (by omega) wr
          have hcast:((1000+j:Nat):Int)=1000+(j:Int):=by omega
          rw[hcast]at hdc;obtain⟨y,hy⟩:∃y:ByteArray,(⟨(xC (1000+j)).toArray⟩:ByteArray)=y:=⟨_,rfl⟩;have hys:y.size≤3000:=by
            rw[←hy];show (xC (1000+j)).length≤3000;omega
          rw[hy]at hdc;have HDC:Hid (Calls Tryz.prog 82 #[.int .i64 (1000+(j:Int))] wr (fun e w'=>e=.returned (.string y)∧wr=w')):=hdc.mono (fun e w' h=>⟨h.1,h.2.symm⟩)
          have hs1:¬(9223372036854775807<(⟨#[108]⟩:ByteArray).size+y.size):=by
            show ¬(9223372036854775807<1+y.size);omega
          have hs2:¬(9223372036854775807<1+y.size):=by omega
          obtain⟨s,hs⟩:∃s:ByteArray,(⟨#[108]⟩:ByteArray)++y=s:=⟨_,rfl⟩;obtain⟨z,hz⟩:∃z,bytesOf s=z:=⟨_,rfl⟩;have HZ:Hid (bytesOf s=z):=hz;have HSU:Hid (xo (j+1)=xo j++[⟨z,true,uf 0 0⟩]):=by
            show xo (j+1)=_;rw[xo,uo7,hy,hs,hz]
          clear hdc hy hdl hz hcast;go_wp2_with fail;refine Calls.mono HDC.out ?_;rintro e w1 ⟨rfl,rfl⟩;go_wp2_with fail;obtain⟨na0,nc0,B0,hcv0,hin0,hkn0⟩:=uaM wr.drew s z HZ.out;have HIN0:Hid (Ints (New wr.drew B0) .u8 B0 na0 z.length (lf z)):=hin0;have HKN0:Hid (Keep (fun _=>False) wr.drew B0):=hkn0
          clear hin0 hkn0;have y0:B0.cell? ⟨gb,1,none⟩=some lv:=(HG.out.later ((Keep.drew _ _).trans HKN0.out) (fun _ e=>e.elim) 3).c1
          have yl0:=ub y0;go_region_law
            (first
              | (refine ym yu rfl (.const (.int .i64 0)) (.const (.int .i64 0)) 3 3 rfl (y1:=.int .i64 0) (y2:=.int .i64 0) rfl rfl ((uG 0 0 B0).mono ?_)
                 rintro e V1 ⟨a2,c2,rfl,hbod,hkk⟩;have K1:Hid (Keep (fun _=>False) B0 V1):=hkk
                 have HB2:Hid (BodP (New B0 V1) V1 (.slice a2 (uf 0 0).length c2) (uf 0 0)):=hbod;have HNa:Hid (Ints (New wr.drew B0) .u8 V1 na0 z.length (lf z)):=HIN0.out.later hkk.bel;have z1:V1.cell? ⟨gb,1,none⟩=some lv:=(HG.out.later (((Keep.drew _ _).trans HKN0.out).trans hkk) (fun _ e=>e.elim) 3).c1
                 have z1l:=ub z1;clear hbod hkk;refine⟨_,rfl,?_⟩)
              | (refine ym yu rfl (.const (.int .i64 0)) (.const (.int .i64 0)) 3 3 rfl (y1:=.int .i64 0) (y2:=.int .i64 0) rfl rfl ((uG 0 0 wr.drew).mono ?_)
                 rintro e V1 ⟨a2,c2,rfl,hbod,hkk⟩;have K1:Hid (Keep (fun _=>False) wr.drew V1):=hkk
                 have HB2:Hid (BodP (New wr.drew V1) V1 (.slice a2 (uf 0 0).length c2) (uf 0 0)):=hbod;have z1:V1.cell? ⟨gb,1,none⟩=some lv:=(HG.out.later ((Keep.drew _ _).trans hkk) (fun _ e=>e.elim) 3).c1
                 have z1l:=ub z1;obtain⟨na1,nc1,B1,hcv1,hin1,hkn1⟩:=uaM V1 s z HZ.out;have HIN1:Hid (Ints (New V1 B1) .u8 B1 na1 z.length (lf z)):=hin1;have HKN1:Hid (Keep (fun _=>False) V1 B1):=hkn1
                 clear hin1 hkn1;have zb1:B1.cell? ⟨gb,1,none⟩=some lv:=(HG.out.later (((Keep.drew _ _).trans hkk).trans HKN1.out) (fun _ e=>e.elim) 3).c1
                 have zb1l:=ub zb1;clear hbod hkk;refine⟨_,rfl,?_⟩)
              | (have HM:Hid (∃G',(∀b,b<wr.heap.size→G' b=G b)∧zGVar gb W0 G' (V1.alloc (.cells #[.slice na0 z.length nc0,.bool true,.slice a2 (uf 0 0).length c2] 42)) rv lv rs ls∧Ints (zTg G' (V1.alloc (.cells #[.slice na0 z.length nc0,.bool true,.slice a2 (uf 0 0).length c2] 42)) 2) .u8 (V1.alloc (.cells #[.slice na0 z.length nc0,.bool true,.slice a2 (uf 0 0).length c2] 42)) na0 z.length (lf z)∧BodP (zTg G' (V1.alloc (.cells #[.slice na0 z.length nc0,.bool true,.slice a2 (uf 0 0).length c2] 42)) (5+2*ls.length)) (V1.alloc (.cells #[.slice na0 z.length nc0,.bool true,.slice a2 (uf 0 0).length c2] 42)) (.slice a2 (uf 0 0).length c2) (uf 0 0)):=xI (N:=New wr.drew B0) (B:=New B0 V1) (5+2*ls.length) HG.out ((((Keep.drew _ wr).trans HKN0.out).trans K1.out).trans (Keep.alloc _ _ _)) (HNa.out.later (up V1 _)) (HB2.out.on (fun x y=>Below.heap_alloc V1 _ _ (y.2))) (fun x y=>⟨y.1,by have h1:=y.2;have h2:=K1.out.size;simp;omega⟩) (fun x y=>⟨by have h1:=y.1;have h3:wr.heap.size≤B0.heap.size:=HKN0.out.size;omega,by have h1:=y.2;simp;omega⟩) (fun x y y'=>by have h1:=y.2;have h2:=y'.1;omega)
                 obtain⟨G2,hold,hg2,hn2,hb2⟩:=HM.out;refine kE rfl (.tmp 38) (.tmp 43) 24 24 rfl (v:=lv) (y:=.slice (some ⟨V1.heap.size,0,none⟩) 1 1) (by simp[Act.eval,Act.put]) (by simp[Act.eval,Act.put]) uak (Q:=zTg G2 (V1.alloc (.cells #[.slice na0 z.length nc0,.bool true,.slice a2 (uf 0 0).length c2] 42)) 1) (n:=ls.length) (cs:=ls.flatMap vC) (news:=vC ⟨⟨z,true,uf 0 0⟩,na0,nc0,a2,c2⟩) hg2.gr.labs (xA (x:=⟨⟨z,true,uf 0 0⟩,na0,nc0,a2,c2⟩) (World.alloc_heap_new V1 _)) (by have:=HLEN.out;omega) ?_
                 intro v6 W6 hown hgrew hsz;obtain⟨_,y1,_,y2⟩:=vf hg2 (by omega) hgrew
                 have HE:Hid (∃xa xc xb xd G',zGVar gb W0 G' (W6.setCell ⟨gb,1,none⟩ v6) rv v6 rs (ls++[⟨⟨z,true,uf 0 0⟩,xa,xc,xb,xd⟩])):=⟨_,_,_,_,ufG (x:=⟨⟨z,true,uf 0 0⟩,na0,nc0,a2,c2⟩) hg2 hn2 hb2 hown hgrew⟩;have HF:Hid (Keep (fun b=>b=gb) W0 (W6.setCell ⟨gb,1,none⟩ v6)):=uaN hg2 (by omega) HKP.out ((((Keep.drew _ wr).trans HKN0.out).trans K1.out).trans (Keep.alloc _ _ _)) hgrew
                 obtain⟨a6,c6,rfl⟩:=um hown;clear hown hgrew hsz hold hg2 hn2 hb2 HM)
              | (have HM:Hid (∃G',(∀b,b<wr.heap.size→G' b=G b)∧zGVar gb W0 G' (B1.alloc (.cells #[.slice na1 z.length nc1,.bool true,.slice a2 (uf 0 0).length c2] 42)) rv lv rs ls∧Ints (zTg G' (B1.alloc (.cells #[.slice na1 z.length nc1,.bool true,.slice a2 (uf 0 0).length c2] 42)) 2) .u8 (B1.alloc (.cells #[.slice na1 z.length nc1,.bool true,.slice a2 (uf 0 0).length c2] 42)) na1 z.length (lf z)∧BodP (zTg G' (B1.alloc (.cells #[.slice na1 z.length nc1,.bool true,.slice a2 (uf 0 0).length c2] 42)) (5+2*ls.length)) (B1.alloc (.cells #[.slice na1 z.length nc1,.bool true,.slice a2 (uf 0 0).length c2] 42)) (.slice a2 (uf 0 0).length c2) (uf 0 0)):=xI (N:=New V1 B1) (B:=New wr.drew V1) (5+2*ls.length) HG.out ((((Keep.drew _ wr).trans K1.out).trans HKN1.out).trans (Keep.alloc _ _ _)) (HIN1.out.later (up B1 _)) ((HB2.out.on (fun x y=>HKN1.out.block x y.2 (fun e=>e))).on (fun x y=>Below.heap_alloc B1 _ _ (by have h1:=y.2;have h2:=HKN1.out.size;omega))) (fun x y=>⟨by have h1:=y.1;have h2:wr.heap.size≤V1.heap.size:=K1.out.size;omega,by have h1:=y.2;simp;omega⟩) (fun x y=>⟨y.1,by have h1:=y.2;have h2:=HKN1.out.size;simp;omega⟩) (fun x y y'=>by have h1:=y.1;have h2:=y'.2;omega)
                 obtain⟨G2,hold,hg2,hn2,hb2⟩:=HM.out;refine kE rfl (.tmp 38) (.tmp 43) 24 24 rfl (v:=lv) (y:=.slice (some ⟨B1.heap.size,0,none⟩) 1 1) (by simp[Act.eval,Act.put]) (by simp[Act.eval,Act.put]) uak (Q:=zTg G2 (B1.alloc (.cells #[.slice na1 z.length nc1,.bool true,.slice a2 (uf 0 0).length c2] 42)) 1) (n:=ls.length) (cs:=ls.flatMap vC) (news:=vC ⟨⟨z,true,uf 0 0⟩,na1,nc1,a2,c2⟩) hg2.gr.labs (xA (x:=⟨⟨z,true,uf 0 0⟩,na1,nc1,a2,c2⟩) (World.alloc_heap_new B1 _)) (by have:=HLEN.out;omega) ?_
                 intro v6 W6 hown hgrew hsz;obtain⟨_,y1,_,y2⟩:=vf hg2 (by omega) hgrew
                 have HE:Hid (∃xa xc xb xd G',zGVar gb W0 G' (W6.setCell ⟨gb,1,none⟩ v6) rv v6 rs (ls++[⟨⟨z,true,uf 0 0⟩,xa,xc,xb,xd⟩])):=⟨_,_,_,_,ufG (x:=⟨⟨z,true,uf 0 0⟩,na1,nc1,a2,c2⟩) hg2 hn2 hb2 hown hgrew⟩;have HF:Hid (Keep (fun b=>b=gb) W0 (W6.setCell ⟨gb,1,none⟩ v6)):=uaN hg2 (by omega) HKP.out ((((Keep.drew _ wr).trans K1.out).trans HKN1.out).trans (Keep.alloc _ _ _)) hgrew
                 obtain⟨a6,c6,rfl⟩:=um hown;clear hown hgrew hsz hold hg2 hn2 hb2 HM))
          all_goals go_goals
          all_goals go_wp2
          all_goals go_roundw
          all_goals first
            | (obtain⟨xa,xc,xb,xd,G',h'⟩:=HE.out
               exact⟨j+1,G',_,_,hlt,rfl,h',by rw[List.map_append,HLS.out,HSU.out];rfl,HF.out⟩)
            | (simp[intOf];omega)
        · obtain rfl:j=m:=by omega
          obtain⟨ra,rc,rfl⟩:=um HG.out.gr.rules;obtain⟨la,lc,rfl⟩:=um HG.out.gr.labs;obtain⟨t0,t1,f0,f1⟩:=HTW.out.keep HKP.out (fun e=>by omega)
          have hG9:G w.heap.size=3:=HG.out.gr.tag (by omega)
          have hs0:=HKW.out.size;have HO:Hid (zGrP w G ((wr.setCell ⟨w.heap.size,0,none⟩ (.slice ra rs.length rc)).setCell ⟨w.heap.size,1,none⟩ (.slice la ls.length lc)) (.slice ra rs.length rc) (.slice la ls.length lc) rs ls):=((HG.out.gr.set hG9).set hG9).base hs0;have HKO:Hid (Keep (fun _=>False) w ((wr.setCell ⟨w.heap.size,0,none⟩ (.slice ra rs.length rc)).setCell ⟨w.heap.size,1,none⟩ (.slice la ls.length lc))):=yQ (yQ ⟨HKP.out.os.trans HKW.out.os,HKP.out.tape.trans HKW.out.tape,HKP.out.output.trans HKW.out.output,Nat.le_trans hs0 HKP.out.size,fun b hb e=>(HKP.out.block b (by omega) (by omega)).trans (HKW.out.block b hb e)⟩ (Nat.le_refl _)) (Nat.le_refl _)
          go_wp2;refine bodyPost_ret (v:=.agg #[.slice ra rs.length rc,.slice la ls.length lc]) ?_ rfl ?_
          · simp[results,Tryz.f53,go_sem, *]
          · exact⟨_,_,G,rs,ls,rfl,HO.out,HRS.out,HLS.out,HKO.out⟩
end
section
open Go.RowKit
def xv(W:World)(cs:Array Value):World:=(W.alloc (.cells cs 5)).freeze ⟨W.heap.size,cs.size,none⟩ 1
theorem uiL(W:World)(cs:Array Value)(k c:Nat):(convert 22 22 (.slice (some ⟨W.heap.size,0,none⟩) k c)).run Tryz.prog (W.alloc (.cells cs 5))=.ok (.slice (some ⟨W.heap.size,0,none⟩) k c) (xv W cs):=by
 have hsh:(W.alloc (.cells cs 5)).shape? W.heap.size=some (5,cs.size):=by
  simp[World.shape?,World.alloc,-World.alloc_eq]
 simp[convert,run_underlying Tryz.underlying22,run_underlying Tryz.underlying5,markStringish,hsh,xv,Result.andThen]
theorem udI(W:World)(cs:Array Value)(j:Nat)(hj:j<W.heap.size):(xv W cs).heap[j]? = W.heap[j]?:=by
 have h1:W.heap.size≠j:=by omega
 simp[xv,World.freeze,World.alloc,-World.alloc_eq,Array.getElem?_modify,Array.getElem?_push,h1,Ne.symm h1]
theorem ugE(W:World)(cs:Array Value):(xv W cs).heap[W.heap.size]? = some (.cells cs 5 (cs.size,cs.size+1)):=by
 simp[xv,World.freeze,World.alloc,-World.alloc_eq];rw[Array.getElem_modify_self];simp
theorem jy(W:World)(cs:Array Value):(xv W cs).heap.size=W.heap.size+1:=by
 simp[xv,World.freeze,World.alloc,-World.alloc_eq]
theorem yG(W:World)(cs:Array Value):Keep (fun _=>False) W (xv W cs):=⟨rfl,rfl,rfl,by rw[jy];omega,fun b hb _=>udI W cs b hb⟩
theorem uca(W:World)(cs:Array Value)(j:Nat):(xv W cs).cell? ⟨W.heap.size,j,none⟩=cs[j]?:=by
 simp only[World.cell?,ugE];simp
theorem ugF(W:World)(cs:Array Value)(j:Nat)(hj:j<cs.size):(xv W cs).frozen? ⟨W.heap.size,j,none⟩=false:=by
 simp only[World.frozen?,ugE];simp;omega
theorem xB(W:World)(z:List Int)(hz:0<z.length):Ints (New W (xv W (z.map (fun x=>Value.int .u8 x)).toArray)) .u8 (xv W (z.map (fun x=>Value.int .u8 x)).toArray) (some ⟨W.heap.size,0,none⟩) z.length (lf z):=by
 refine .inr ⟨W.heap.size,0,rfl,⟨Nat.le_refl _,by rw[jy];omega⟩,fun k hk=>?_⟩
 rw[Nat.zero_add,uca];simp[lf,hk]
theorem ual{ops:Array Oper}{rest:List Oper}{o:Oper}{a:Act}{P':Exit→Act→World→Prop}{W:World}{cs:Array Value}{k c:Nat}(hgd:o.guard=none)(x:Operand)(ho:o.op=.convert 22 22 x)(hx:a.eval x=.slice (some ⟨W.heap.size,0,none⟩) k c)
  (h:∀w',w'=xv W cs→wpList Tryz.prog ops P' rest (a.put o.dst (.slice (some ⟨W.heap.size,0,none⟩) k c)) w'):wpList Tryz.prog ops P' (o::rest) a (W.alloc (.cells cs 5)):=by
 refine wpList_plain hgd fun K hK=>?_
 have hr:=uiL W cs k c;unfold Oper.wp execOp;simp only[ho,Sem.run_bind,Sem.run_pure,Result.andThen_ok,hx,hr];exact hK _ _ (h _ rfl)
def vI(V:World)(b m:Nat):World:=V.freeze ⟨b,m,none⟩ 1
theorem ueU(V:World)(b k c m:Nat)(h:V.shape? b=some (5,m)):(convert 22 22 (.slice (some ⟨b,0,none⟩) k c)).run Tryz.prog V=.ok (.slice (some ⟨b,0,none⟩) k c) (vI V b m):=by
 simp[convert,run_underlying Tryz.underlying22,run_underlying Tryz.underlying5,markStringish,h,vI,Result.andThen]
theorem qr(V:World)(b m j:Nat)(hj:j≠b):(vI V b m).heap[j]? = V.heap[j]?:=by
 simp[vI,World.freeze,Array.getElem?_modify,Ne.symm hj]
theorem kG(V:World)(b m:Nat):(vI V b m).heap.size=V.heap.size:=by
 simp[vI,World.freeze]
theorem ugG(V:World)(b m:Nat){cs:Array Value}(h:V.heap[b]? = some (.cells cs 5))(j:Nat):(vI V b m).cell? ⟨b,j,none⟩=cs[j]?:=by
 have h2:(vI V b m).heap[b]? = some (.cells cs 5 (m,m+1)):=by
  simp[vI,World.freeze,Array.getElem?_modify,h]
 simp only[World.cell?,h2];simp
theorem ugH{V:World}{b:Nat}{cs:Array Value}(h:V.heap[b]? = some (.cells cs 5)):V.shape? b=some (5,cs.size):=by
 simp[World.shape?,h]
end
end Go.Proofs.YthicmmhmmfhncaaGreat
