import Derived.Test.YthicmmhmmfhncaaGreatT09
import Derived.Test.YthicmmhmmfhncaaGreatT10
import Derived.Deep.Cut
import Derived.Deep.CutRange
set_option linter.unusedVariables false
set_option linter.unusedSimpArgs false
namespace Go.Proofs.YthicmmhmmfhncaaGreat
section
open Go.RowKit
open M (OpD uj Gr)
def dlI (t : Tp) (R gb : Nat) (W0 : World) (n m i1 : Nat) (rv : Value) (rs : List zNC) (iv : Value) (wr : World) : Prop :=
  ∃ (k:Nat) (G:Nat→Nat) (ls:List zNC) (lv:Value),k≤m∧iv = .int .i64 (k:Int)∧zGVar gb W0 G wr rv lv rs ls∧ls.map (·.d)=(vm t n i1 k).1∧RdA t R wr (vm t n i1 k).2∧Keep (fun b=>b=R∨b=gb) W0 wr
theorem ulP {t : Tp} {R gb : Nat} {W0 W : World} {n m i1 k : Nat} {rv : Value} {rs ls : List zNC} {q : (Bool × List OpD) × Nat} {na ba : Option Addr} {nc bc : Nat} {v : Value} (hlt : k<m) (hls : ls.map (·.d)=(vm t n i1 k).1) (hq : jS t n (vm t n i1 k).2=q)
    (hE:∃ G',zGVar gb W0 G' W rv v rs (ls ++ [⟨⟨uab k,q.1.1,q.1.2⟩,na,nc,ba,bc⟩])) (hF:RdA t R W q.2∧Keep (fun x=>x=R∨x=gb) W0 W):dlI t R gb W0 n m i1 rv rs (.int .i64 ((k+1:Nat):Int)) W:=by
  obtain ⟨G',hg⟩:=hE
  refine ⟨k+1,G',_,v,hlt,rfl,hg,?_,?_,hF.2⟩
  · rw [vm,List.map_append,hls,hq];rfl
  · rw [vm,hq];exact hF.1
def uhQ (k : Nat) : ByteArray:=if k=0 then ⟨#[101,49]⟩ else if k=1 then ⟨#[101,114,114]⟩ else ⟨#[109,105,100,95,50]⟩
theorem ueT (k : Nat) : bytesOf (uhQ k)=uab k:=by
  unfold uhQ uab
  split
  · rfl
  · split
    · rfl
    · rfl
theorem ulQ (w : World) (k : Nat) (hk : k<3) {t : TypeId} : (w.alloc (.cells #[.string ⟨#[101,49]⟩,.string ⟨#[101,114,114]⟩,.string ⟨#[109,105,100,95,50]⟩] t)).cell? ⟨w.heap.size,k,none⟩=some (.string (uhQ k)):=by
  have hb:=World.alloc_heap_new w (.cells #[.string ⟨#[101,49]⟩,.string ⟨#[101,114,114]⟩,.string ⟨#[109,105,100,95,50]⟩] t)
  simp only [World.cell?,hb]
  match k,hk with
  | 0,_=>rfl
  | 1,_=>rfl
  | 2,_=>rfl
theorem ugz {n : Nat} {b : List OpD} (k m c : Nat) (h : Lil n b) : Lil (n+2) (qo k m c b):=by
  unfold qo
  split
  · exact vg 4 h (uH 2 1)
  · exact h.mono (by omega)
theorem ugA {n : Nat} {b : List OpD} (k c : Nat) (h : Lil n b) : Lil (n+3) (qp k c b):=by
  unfold qp
  split
  · exact vg 4 h (ye 7 (uF (by simp)))
  · exact h.mono (by omega)
theorem ugB {n : Nat} {b : List OpD} (k m c : Nat) (h : Lil n b) : Lil (n+4) (qq k m c b):=by
  unfold qq
  split
  · exact (vg 4 (vg 5 (uF (s:=ur 97) (by simp [ur])) (uH 3 0)) h).mono (by omega)
  · exact h.mono (by omega)
theorem uiJ {b : List OpD} (k m c : Nat) (h : 0<b.length) : 0<(qo k m c b).length:=by
  unfold qo
  split
  · simp [uw];omega
  · exact h
theorem uiK {b : List OpD} (k c : Nat) (h : 0<b.length) : 0<(qp k c b).length:=by
  unfold qp
  split
  · simp [uw];omega
  · exact h
theorem jU (t : Tp) (n m i0 : Nat) : ∀ (k : Nat) (x : zNL),x∈(vG t n m i0 k).1→Lil 300 x.bd
  | 0,x,h=>by cases h
  | k+1,x,h=>by
    rw [vG] at h
    rcases List.mem_append.1 h with q | q
    · exact jU t n m i0 k x q
    · obtain rfl:=List.mem_singleton.1 q
      exact (ugB _ _ _ (ugA _ _ (ugz _ _ _ ((vJ t k n m 5 false _).mono (uhO (by omega)))))).mono (by omega)
theorem uak : xM 24 42 3 56:=⟨Tryz.underlying24,⟨_,ulK,rfl⟩,by omega⟩
set_option maxRecDepth 100000 in
set_option maxHeartbeats 40000000 in
theorem uaK (t : Tp) (R i : Nat) (w : World) (h : RdA t R w i) (g : (List zNL × List zNL) × Nat) (hgr : qc t i=g) :
    Calls Tryz.prog 29 #[.pointer (some ⟨R,0,none⟩)] w (DrG t R g w):=by
  have hv:=t.v_le i
  have hv2:=t.v_le (t.n i)
  have hRw:=h.lt
  go_enter Tryz.func29,Tryz.ntmps29
  go_wp2_with fail
  refine (uN t R i _ (h.keep (Keep.alloc (fun _=>False) _ _) (fun _ q=>q.elim))).mono ?_
  rintro e w1 ⟨rfl,hon1⟩
  go_wp2_with fail
  refine (uN t R (t.n i) _ hon1.1).mono ?_
  rintro e w2 ⟨rfl,hon2⟩
  have hon:=hon1.trans hon2
  have HR:Hid (RdOn t R (t.n (t.n i)) (w.alloc (.cells #[.slice none 0 0,.slice none 0 0] 26)) w2):=hon
  have hR2:=hon.1.lt
  clear hon1 hon2 hon h
  unfold qc at hgr
  dsimp only at hgr
  generalize t.v i=kn at *
  generalize t.v (t.n i)=km at *
  generalize t.n (t.n i)=i0 at *
  obtain ⟨n,hn⟩:∃ n:Nat,1+kn % 4=n:=⟨_,rfl⟩
  have hn':1+(kn:Int) % 4=(n:Int):=by omega
  have hnl:n≤4:=by omega
  obtain ⟨m,hm⟩:∃ m:Nat,km % 4=m:=⟨_,rfl⟩
  have hm':(km:Int) % 4=(m:Int):=by omega
  have hml:m≤3:=by omega
  rw [hn,hm] at hgr
  have HGR:Hid ((((vG t n m i0 n).1,vP (vG t n m i0 n).1 (vm t n (vG t n m i0 n).2 m).1 m),(vm t n (vG t n m i0 n).2 m).2)=g):=hgr
  clear hn hm hv hv2 hgr
  go_wp2_with fail
  generalize hW0:w2.alloc (.cells #[.slice none 0 0,.slice none 0 0] 26)=W0 at *
  have hgb:w2.heap.size<W0.heap.size:=by rw [← hW0];simp
  have HIN:Hid (zGVar w2.heap.size W0 (fun _=>3) W0 (.slice none 0 0) (.slice none 0 0) [] []):=by
    show zGVar _ _ _ _ _ _ _ _
    rw [← hW0]
    exact udG w2
  have HRW0:Hid (RdA t R W0 i0):=by
    show RdA t R W0 i0
    rw [← hW0]
    exact HR.out.1.keep (Keep.alloc (fun _=>False) _ _) (fun _ q=>q.elim)
  have HKW0:Hid (Keep (fun b=>b=R) w W0):=by
    show Keep _ w W0
    rw [← hW0]
    exact ((Keep.alloc _ w _).trans HR.out.2).trans (Keep.alloc _ _ _)
  have HRN:Hid (R<W0.heap.size∧R≠w2.heap.size):=⟨by omega,by omega⟩
  have hrb:w.heap.size<w2.heap.size:=by have:=HR.out.2.size;simp at this;omega
  have HTW0:Hid (zTwo w.heap.size W0):=by
    show zTwo _ W0
    rw [← hW0]
    exact ((ja w).keep HR.out.2 (fun e=>by omega)).keep (Keep.alloc (fun _=>False) _ _) (fun e=>e)
  clear hW0
  go_loopw [6] (fun iv wr=>dgI t R w2.heap.size W0 n m i0 iv wr) (fun iv _=>n-(intOf iv).toNat)
  case atStart=>exact ⟨0,_,[],_,Nat.zero_le _,rfl,HIN.out,rfl,HRW0.out,Keep.refl _ _⟩
  case round =>
    obtain ⟨k,G,rs,rv,hk,rfl,hg,hrs,hrd,hkeep⟩:=hrel
    have HG:Hid (zGVar w2.heap.size W0 G wr rv (.slice none 0 0) rs []):=hg
    have HRS:Hid (rs.map (·.d)=(vG t n m i0 k).1):=hrs
    have HRD:Hid (RdA t R wr (vG t n m i0 k).2):=hrd
    have HKP:Hid (Keep (fun b=>b=R∨b=w2.heap.size) W0 wr):=hkeep
    have hRr:=hrd.lt
    have HLEN:Hid (rs.length=k):=by
      show rs.length=k
      rw [← List.length_map (f:=(·.d)),hrs];exact jR t n m i0 k
    clear hg hrs hrd hkeep
    by_cases hlt:k<n
    · have hlt':(k:Int)<(n:Int):=by omega
      obtain ⟨p0,hp0⟩:∃ p,vG t n m i0 k=p:=⟨_,rfl⟩
      obtain ⟨b,hb⟩:∃ p,vU t k n m 5 false p0.2=p:=⟨_,rfl⟩
      have lilb:Lil 200 b.1:=(hb ▸ vJ t k n m 5 false p0.2:Lil (big 5) b.1).mono (uhO (by omega))
      have hneb:0<b.1.length:=hb ▸ yz t k n m 5 false p0.2
      have HSU:Hid (vG t n m i0 (k+1)=(p0.1 ++ [⟨[((115+k % 8:Nat):Int)],true,qq k m (t.v b.2) (qp k (t.v b.2) (qo k n (t.v b.2) b.1))⟩],t.n b.2)):=by
        show vG t n m i0 (k+1)=_
        rw [vG,hp0,hb]
      have HRS0:Hid (rs.map (·.d)=p0.1):=hp0 ▸ HRS.out
      go_wp2_with fail
      refine (qn t R k n m (by omega) (by omega) (by omega) 5 5 rfl false p0.2 wr b (by omega) (hp0 ▸ HRD.out) hb).mono ?_
      rintro e w3 ⟨ba0,bc0,rfl,hbod,hon⟩
      have HB3:Hid (BodP (New wr w3) w3 (.slice ba0 b.1.length bc0) b.1):=hbod
      have HR3:Hid (RdOn t R b.2 wr w3):=hon
      clear hbod hon
      go_wp2_with fail
      refine (uN t R b.2 w3 HR3.out.1).mono ?_
      rintro e w4 ⟨rfl,hon⟩
      have HR4:Hid (RdOn t R (t.n b.2) wr w4):=HR3.out.trans hon
      have HB4:Hid (BodP (New wr w4) w4 (.slice ba0 b.1.length bc0) b.1):=(HB3.out.later hon.2 (fun x e=>by omega)).wide (fun x q=>⟨q.1,by have:=hon.2.size;have:=q.2;omega⟩)
      have vc:=t.v_le b.2
      clear hon hb hp0 HRS
      generalize t.v b.2=c at *
      generalize t.n b.2=i2 at *
      generalize b.1=D0 at *
      by_cases hk0:k=0
      · subst hk0
        go_upto_region 9 with fail
        go_cut [42] from 20 to 83 (fun v wc=>v = .bool (decide (c % 3=1∧1<n))∧w4=wc)
        case first =>
          by_cases q1:c % 3=1
          · have q1':(c:Int) % 3=1:=by omega
            by_cases q2:1<n
            · have q2':(1:Int)<(n:Int):=by omega
              go_wp2_with fail
              go_meet
              exact ⟨by simp [q1,q2],rfl⟩
            · have q2':¬ (1:Int)<(n:Int):=by omega
              go_wp2_with fail
              go_meet
              exact ⟨by simp [q1,q2],rfl⟩
          · have q1':¬ (c:Int) % 3=1:=by omega
            go_wp2_with fail
            go_meet
            exact ⟨by first | (simp [q1];done) | (simp [q1];omega),rfl⟩
        case rest =>
          obtain ⟨rfl,hw⟩:=hcut
          subst hw
          go_upto_if 42 with fail
          go_cut [7] from 20 to 83 (fun v wc=>∃ a c',v = .slice a (qo 0 n c (D0)).length c'∧BodP (New wr wc) wc v (qo 0 n c (D0))∧RdOn t R i2 wr wc)
          case first =>
            by_cases q:c % 3=1∧1<n
            · have qd:decide (c % 3=1∧1<n)=true:=by simp [q]
              go_wp2_with fail
              refine (uG 2 1 w4).mono ?_
              rintro e w5 ⟨a5,c5,rfl,hbod,hkk⟩
              have HR5:Hid (RdOn t R i2 wr w5):=HR4.out.quiet hkk
              have HB5:Hid (BodP (New wr w5) w5 (.slice ba0 (D0).length bc0) (D0)):=(HB4.out.later hkk (fun x e=>e.elim)).wide (fun x q=>⟨q.1,by have:=hkk.size;have:=q.2;omega⟩)
              have HX5l:Hid (OpsA (fun x=>x≠R) w5 a5 (uf 2 1).length (df (uf 2 1))):=uW hbod HR4.out.1.lt
              clear hbod hkk
              go_wp2_with fail
              refine (uV _ _ 4 ba0 a5 bc0 c5 (D0) (uf 2 1) w5 (uW HB5.out hRr) (Lil.small (lilb) (by omega)) HX5l.out (Lil.small (uH 2 1) (by omega)) (by simp [uf])).mono ?_
              rintro e w6 ⟨a6,c6,rfl,hbod,hkk⟩
              have HR6:Hid (RdOn t R i2 wr w6):=HR5.out.quiet hkk
              have HB6:Hid (BodP (New wr w6) w6 (.slice a6 (uw 4 (D0) (uf 2 1)).length c6) (uw 4 (D0) (uf 2 1))):=hbod.wide (fun x q=>⟨by have:=HR5.out.2.size;have:=q.1;omega,q.2⟩)
              clear hbod hkk
              go_wp2_with fail
              go_meet
              exact ⟨a6,c6,by rw [qo,if_pos ⟨rfl,q⟩],by rw [qo,if_pos ⟨rfl,q⟩];exact HB6.out,HR6.out⟩
            · have qd:decide (c % 3=1∧1<n)=false:=by simp [q]
              go_wp2_with fail
              go_meet
              exact ⟨ba0,bc0,by rw [qo,if_neg (fun x=>q x.2)],by rw [qo,if_neg (fun x=>q x.2)];exact HB4.out,HR4.out⟩
          case rest =>
            obtain ⟨ba7,bc7,rfl,hbx,hrx⟩:=hcut
            obtain ⟨w7,hw⟩:∃ x,x=wc:=⟨_,rfl⟩
            subst hw
            have HB7:Hid (BodP (New wr w7) w7 (.slice ba7 (qo 0 n c (D0)).length bc7) (qo 0 n c (D0))):=hbx
            have HR7:Hid (RdOn t R i2 wr w7):=hrx
            have lil7:=ugz 0 n c lilb
            have ne7:=uiJ 0 n c hneb
            clear hbx hrx
            obtain ⟨D7,hD7⟩:∃ x,qo 0 n c (D0)=x:=⟨_,rfl⟩
            rw [hD7] at HB7 lil7 ne7
            have HD7:Hid (qo 0 n c (D0)=D7):=hD7
            rw [hD7]
            clear hD7
            go_upto_region 11 with fail
            go_cut [52] from 20 to 83 (fun v wc=>v = .bool (decide (c % 4=1))∧w7=wc)
            case first =>
              by_cases q1:c % 4=1
              · have q1':(c:Int) % 4=1:=by omega
                go_wp2_with fail
                go_meet
                exact ⟨by first | (simp [q1];done) | (simp [q1];omega),rfl⟩
              · have q1':¬ (c:Int) % 4=1:=by omega
                go_wp2_with fail
                go_meet
                exact ⟨by first | (simp [q1];done) | (simp [q1];omega),rfl⟩
            case rest =>
              obtain ⟨rfl,hw⟩:=hcut
              subst hw
              go_upto_if 52 with fail
              go_cut [7] from 20 to 83 (fun v wc=>∃ a c',v = .slice a (qp 0 c (D7)).length c'∧BodP (New wr wc) wc v (qp 0 c (D7))∧RdOn t R i2 wr wc)
              case first =>
                by_cases q:c % 4=1
                · have qd:decide (c % 4=1)=true:=by simp [q]
                  go_wp2_with fail
                  generalize hA8:w7.alloc (.cells #[.int .i64 0,.int .i64 255] 3)=w8 at *
                  have kA8:Keep (fun _=>False) w7 w8:=hA8 ▸ Keep.alloc _ _ _
                  have HI8:Hid (Ints (fun _=>True) .i64 w8 (some ⟨w7.heap.size,0,none⟩) ([(0:Int),255]).length (lf ([(0:Int),255]))):=hA8 ▸ xO w7 _ _ 3
                  have HR8:Hid (RdOn t R i2 wr w8):=HR7.out.quiet kA8
                  have HB8:Hid (BodP (New wr w8) w8 (.slice ba7 (D7).length bc7) (D7)):=(HB7.out.later kA8 (fun x e=>e.elim)).wide (fun x q=>⟨q.1,by have:=kA8.size;have:=q.2;omega⟩)
                  clear kA8 hA8
                  go_wp2_with fail
                  refine (uU _ _ 2 [(0:Int),255] w8 HI8.out (by simp)).mono ?_
                  rintro e w9 ⟨a9,c9,rfl,hbod,hkk⟩
                  have HR9:Hid (RdOn t R i2 wr w9):=HR8.out.quiet hkk
                  have HB9:Hid (BodP (New wr w9) w9 (.slice ba7 (D7).length bc7) (D7)):=(HB8.out.later hkk (fun x e=>e.elim)).wide (fun x q=>⟨q.1,by have:=hkk.size;have:=q.2;omega⟩)
                  have HX9s:Hid (OpsA (fun x=>x≠R) w9 a9 (ui [0,255]).length (df (ui [0,255]))):=uW hbod HR8.out.1.lt
                  clear hbod hkk
                  go_wp2_with fail
                  refine (vT _ 7 a9 c9 (ui [0,255]) w9 HX9s.out (Lil.small (uF (s:=[0,255]) (by simp)) (by omega))).mono ?_
                  rintro e w10 ⟨a10,c10,rfl,hbod,hkk⟩
                  have HR10:Hid (RdOn t R i2 wr w10):=HR9.out.quiet hkk
                  have HB10:Hid (BodP (New wr w10) w10 (.slice ba7 (D7).length bc7) (D7)):=(HB9.out.later hkk (fun x e=>e.elim)).wide (fun x q=>⟨q.1,by have:=hkk.size;have:=q.2;omega⟩)
                  have HX10s:Hid (OpsA (fun x=>x≠R) w10 a9 (ui [0,255]).length (df (ui [0,255]))):=HX9s.out.kept hkk (fun _ _ q=>q)
                  have HX10u:Hid (OpsA (fun x=>x≠R) w10 a10 (unD 7 (ui [0,255])).length (df (unD 7 (ui [0,255])))):=uW hbod HR9.out.1.lt
                  clear hbod hkk
                  go_wp2_with fail
                  refine (uV _ _ 4 ba7 a10 bc7 c10 (D7) (unD 7 (ui [0,255])) w10 (uW HB10.out hRr) (Lil.small (lil7) (by omega)) HX10u.out (Lil.small (ye 7 (uF (s:=[0,255]) (by simp))) (by omega)) (by simp [unD])).mono ?_
                  rintro e w11 ⟨a11,c11,rfl,hbod,hkk⟩
                  have HR11:Hid (RdOn t R i2 wr w11):=HR10.out.quiet hkk
                  have HB11:Hid (BodP (New wr w11) w11 (.slice a11 (uw 4 (D7) (unD 7 (ui [0,255]))).length c11) (uw 4 (D7) (unD 7 (ui [0,255])))):=hbod.wide (fun x q=>⟨by have:=HR10.out.2.size;have:=q.1;omega,q.2⟩)
                  clear hbod hkk
                  go_wp2_with fail
                  go_meet
                  exact ⟨a11,c11,by rw [qp,if_pos ⟨rfl,q⟩],by rw [qp,if_pos ⟨rfl,q⟩];exact HB11.out,HR11.out⟩
                · have qd:decide (c % 4=1)=false:=by simp [q]
                  go_wp2_with fail
                  go_meet
                  exact ⟨ba7,bc7,by rw [qp,if_neg (fun x=>q x.2)],by rw [qp,if_neg (fun x=>q x.2)];exact HB7.out,HR7.out⟩
              case rest =>
                obtain ⟨ba12,bc12,rfl,hbx,hrx⟩:=hcut
                obtain ⟨w12,hw⟩:∃ x,x=wc:=⟨_,rfl⟩
                subst hw
                have HB12:Hid (BodP (New wr w12) w12 (.slice ba12 (qp 0 c (D7)).length bc12) (qp 0 c (D7))):=hbx
                have HR12:Hid (RdOn t R i2 wr w12):=hrx
                have lil12:=ugA 0 c lil7
                have ne12:=uiK 0 c ne7
                clear hbx hrx
                obtain ⟨D12,hD12⟩:∃ x,qp 0 c (D7)=x:=⟨_,rfl⟩
                rw [hD12] at HB12 lil12 ne12
                have HD12:Hid (qp 0 c (D7)=D12):=hD12
                rw [hD12]
                clear hD12
                go_upto_region 13 with fail
                go_cut [68] from 20 to 83 (fun v wc=>v = .bool (decide (c % 5=1∧0<m))∧w12=wc)
                case first =>
                  by_cases q1:c % 5=1
                  · have q1':(c:Int) % 5=1:=by omega
                    by_cases q2:0<m
                    · have q2':(0:Int)<(m:Int):=by omega
                      go_wp2_with fail
                      go_meet
                      exact ⟨by simp [q1,q2],rfl⟩
                    · have q2':¬ (0:Int)<(m:Int):=by omega
                      go_wp2_with fail
                      go_meet
                      exact ⟨by simp [q1,q2],rfl⟩
                  · have q1':¬ (c:Int) % 5=1:=by omega
                    go_wp2_with fail
                    go_meet
                    exact ⟨by first | (simp [q1];done) | (simp [q1];omega),rfl⟩
                case rest =>
                  obtain ⟨rfl,hw⟩:=hcut
                  subst hw
                  go_upto_if 68 with fail
                  go_cut [7] from 20 to 83 (fun v wc=>∃ a c',v = .slice a (qq 0 m c (D12)).length c'∧BodP (New wr wc) wc v (qq 0 m c (D12))∧RdOn t R i2 wr wc)
                  case first =>
                    by_cases q:c % 5=1∧0<m
                    · have qd:decide (c % 5=1∧0<m)=true:=by simp [q]
                      go_wp2_with fail
                      refine (uL 97 w12).mono ?_
                      rintro e w13 ⟨rfl,hA⟩
                      have hA13:=hA.symm
                      clear hA
                      have kA13:Keep (fun _=>False) w12 w13:=hA13 ▸ Keep.alloc _ _ _
                      have HI13:Hid (Ints (fun _=>True) .i64 w13 (some ⟨w12.heap.size,0,none⟩) (ur 97).length (lf (ur 97))):=hA13 ▸ xO w12 _ _ 3
                      have HR13:Hid (RdOn t R i2 wr w13):=HR12.out.quiet kA13
                      have HB13:Hid (BodP (New wr w13) w13 (.slice ba12 (D12).length bc12) (D12)):=(HB12.out.later kA13 (fun x e=>e.elim)).wide (fun x q=>⟨q.1,by have:=kA13.size;have:=q.2;omega⟩)
                      clear kA13 hA13
                      go_wp2_with fail
                      refine (uU _ _ 2 (ur 97) w13 HI13.out (by simp [ur])).mono ?_
                      rintro e w14 ⟨a14,c14,rfl,hbod,hkk⟩
                      have HR14:Hid (RdOn t R i2 wr w14):=HR13.out.quiet hkk
                      have HB14:Hid (BodP (New wr w14) w14 (.slice ba12 (D12).length bc12) (D12)):=(HB13.out.later hkk (fun x e=>e.elim)).wide (fun x q=>⟨q.1,by have:=hkk.size;have:=q.2;omega⟩)
                      have HX14s:Hid (OpsA (fun x=>x≠R) w14 a14 (ui (ur 97)).length (df (ui (ur 97)))):=uW hbod HR13.out.1.lt
                      clear hbod hkk
                      go_wp2_with fail
                      refine (uG 3 0 w14).mono ?_
                      rintro e w15 ⟨a15,c15,rfl,hbod,hkk⟩
                      have HR15:Hid (RdOn t R i2 wr w15):=HR14.out.quiet hkk
                      have HB15:Hid (BodP (New wr w15) w15 (.slice ba12 (D12).length bc12) (D12)):=(HB14.out.later hkk (fun x e=>e.elim)).wide (fun x q=>⟨q.1,by have:=hkk.size;have:=q.2;omega⟩)
                      have HX15s:Hid (OpsA (fun x=>x≠R) w15 a14 (ui (ur 97)).length (df (ui (ur 97)))):=HX14s.out.kept hkk (fun _ _ q=>q)
                      have HX15l:Hid (OpsA (fun x=>x≠R) w15 a15 (uf 3 0).length (df (uf 3 0))):=uW hbod HR14.out.1.lt
                      clear hbod hkk
                      go_wp2_with fail
                      refine (uV _ _ 5 a14 a15 c14 c15 (ui (ur 97)) (uf 3 0) w15 HX15s.out (Lil.small (uF (s:=ur 97) (by simp [ur])) (by omega)) HX15l.out (Lil.small (uH 3 0) (by omega)) (by simp [uf])).mono ?_
                      rintro e w16 ⟨a16,c16,rfl,hbod,hkk⟩
                      have HR16:Hid (RdOn t R i2 wr w16):=HR15.out.quiet hkk
                      have HB16:Hid (BodP (New wr w16) w16 (.slice ba12 (D12).length bc12) (D12)):=(HB15.out.later hkk (fun x e=>e.elim)).wide (fun x q=>⟨q.1,by have:=hkk.size;have:=q.2;omega⟩)
                      have HX16s:Hid (OpsA (fun x=>x≠R) w16 a14 (ui (ur 97)).length (df (ui (ur 97)))):=HX15s.out.kept hkk (fun _ _ q=>q)
                      have HX16l:Hid (OpsA (fun x=>x≠R) w16 a15 (uf 3 0).length (df (uf 3 0))):=HX15l.out.kept hkk (fun _ _ q=>q)
                      have HX16v:Hid (OpsA (fun x=>x≠R) w16 a16 (uw 5 (ui (ur 97)) (uf 3 0)).length (df (uw 5 (ui (ur 97)) (uf 3 0)))):=uW hbod HR15.out.1.lt
                      clear hbod hkk
                      go_wp2_with fail
                      refine (uV _ _ 4 a16 ba12 c16 bc12 (uw 5 (ui (ur 97)) (uf 3 0)) (D12) w16 HX16v.out (Lil.small (vg 5 (uF (s:=ur 97) (by simp [ur])) (uH 3 0)) (by omega)) (uW HB16.out hRr) (Lil.small (lil12) (by omega)) ne12).mono ?_
                      rintro e w17 ⟨a17,c17,rfl,hbod,hkk⟩
                      have HR17:Hid (RdOn t R i2 wr w17):=HR16.out.quiet hkk
                      have HB17:Hid (BodP (New wr w17) w17 (.slice a17 (uw 4 (uw 5 (ui (ur 97)) (uf 3 0)) (D12)).length c17) (uw 4 (uw 5 (ui (ur 97)) (uf 3 0)) (D12))):=hbod.wide (fun x q=>⟨by have:=HR16.out.2.size;have:=q.1;omega,q.2⟩)
                      clear hbod hkk
                      go_wp2_with fail
                      go_meet
                      exact ⟨a17,c17,by rw [qq,if_pos ⟨rfl,q⟩],by rw [qq,if_pos ⟨rfl,q⟩];exact HB17.out,HR17.out⟩
                    · have qd:decide (c % 5=1∧0<m)=false:=by simp [q]
                      go_wp2_with fail
                      go_meet
                      exact ⟨ba12,bc12,by rw [qq,if_neg (fun x=>q x.2)],by rw [qq,if_neg (fun x=>q x.2)];exact HB12.out,HR12.out⟩
                  case rest =>
                    obtain ⟨ba18,bc18,rfl,hbx,hrx⟩:=hcut
                    obtain ⟨w18,hw⟩:∃ x,x=wc:=⟨_,rfl⟩
                    subst hw
                    have HB18:Hid (BodP (New wr w18) w18 (.slice ba18 (qq 0 m c (D12)).length bc18) (qq 0 m c (D12))):=hbx
                    have HR18:Hid (RdOn t R i2 wr w18):=hrx
                    have lil18:=ugB 0 m c lil12
                    clear hbx hrx
                    obtain ⟨D18,hD18⟩:∃ x,qq 0 m c (D12)=x:=⟨_,rfl⟩
                    rw [hD18] at HB18 lil18
                    have HD18:Hid (qq 0 m c (D12)=D18):=hD18
                    rw [hD18]
                    clear hD18
                    have z4:=(HG.out.later HR18.out.2 (fun x e=>by subst e;exact HRN.out) 3)
                    have d0:=z4.c0
                    have d1:=z4.c1
                    have e0:=z4.f0
                    have e1:=z4.f1
                    clear z4
                    go_wp2_with fail
                    go_region_law
                      (first
                        | (refine yZ ufF rfl (.tmp 77) 3 rfl (y1:=.int .i64 ((0:Nat):Int)) (by simp [Act.eval,Act.put]) ((kH 0 (by omega) w18.drew).mono ?_)
                           rintro e W5 ⟨v,rfl,na,nc,rfl,hna,hk5⟩
                           have k5:Keep (fun _=>False) w18 W5:=(Keep.drew _ _).trans hk5
                           have k5':Keep (fun x=>x=R) wr W5:=HR18.out.2.trans (k5.mono (fun _ q=>q.elim))
                           have z0:W5.cell? ⟨w2.heap.size,0,none⟩=some rv:=(HG.out.later k5' (fun x e=>by subst e;exact HRN.out) 3).c0
                           have zl:=ub z0
                           have HN5:Hid (Ints (New w18 W5) .u8 W5 na 1 (lf [((115+0 % 8:Nat):Int)])):=hna
                           have HK5:Hid (Keep (fun _=>False) w18 W5):=k5
                           clear hna hk5 k5 k5'
                           refine ⟨_,rfl,?_⟩)
                        | (have HM:Hid (∃ G',zGVar w2.heap.size W0 G' (W5.alloc (.cells #[.slice na 1 nc,.slice ba18 (D18).length bc18] 39)) rv (.slice none 0 0) rs []∧Ints (zTg G' (W5.alloc (.cells #[.slice na 1 nc,.slice ba18 (D18).length bc18] 39)) 2) .u8 (W5.alloc (.cells #[.slice na 1 nc,.slice ba18 (D18).length bc18] 39)) na 1 (lf [((115+0 % 8:Nat):Int)])∧BodP (zTg G' (W5.alloc (.cells #[.slice na 1 nc,.slice ba18 (D18).length bc18] 39)) (4+2*rs.length)) (W5.alloc (.cells #[.slice na 1 nc,.slice ba18 (D18).length bc18] 39)) (.slice ba18 (D18).length bc18) (D18)):=uhP (z:=[((115+0 % 8:Nat):Int)]) (N:=New w18 W5) (B:=New wr w18) (4+2*rs.length) HRN.out HG.out (HR18.out.2.trans ((HK5.out.trans (Keep.alloc _ _ _)).mono (fun _ q=>q.elim))) (HN5.out.later (up W5 _)) ((HB18.out.later (HK5.out.trans (Keep.alloc _ _ _)) (fun x e=>e.elim))) (fun x q=>⟨by have:=HR18.out.2.size;have:=q.1;omega,by have:=q.2;simp;omega⟩) (fun x q=>⟨q.1,by have:=HK5.out.size;have:=q.2;simp;omega⟩) (fun x q q'=>by have:=q.1;have:=q'.2;omega)
                           obtain ⟨G2,hg2,hn2,hb2⟩:=HM.out
                           refine kE rfl (.tmp 76) (.tmp 81) 23 23 rfl (v:=rv) (y:=.slice (some ⟨W5.heap.size,0,none⟩) 1 1) (by simp [Act.eval,Act.put]) (by simp [Act.eval,Act.put]) uae (Q:=zTg G2 (W5.alloc (.cells #[.slice na 1 nc,.slice ba18 (D18).length bc18] 39)) 0) (n:=rs.length) (cs:=rs.flatMap vF) (news:=vF ⟨⟨[((115+0 % 8:Nat):Int)],true,D18⟩,na,nc,ba18,bc18⟩) hg2.gr.rules (jx (x:=⟨⟨[((115+0 % 8:Nat):Int)],true,D18⟩,na,nc,ba18,bc18⟩) (World.alloc_heap_new W5 _)) (by have:=HLEN.out;omega) ?_
                           intro v6 W6 hown hgrew hsz
                           obtain ⟨a6,c6,rfl⟩:=um hown
                           obtain ⟨z1,_,z2,_⟩:=vf hg2 (by omega) hgrew
                           have HE:Hid (∃ G',zGVar w2.heap.size W0 G' (W6.setCell ⟨w2.heap.size,0,none⟩ (.slice a6 (rs.length+1) c6)) (.slice a6 (rs.length+1) c6) (.slice none 0 0) (rs ++ [⟨⟨[((115+0 % 8:Nat):Int)],true,D18⟩,na,nc,ba18,bc18⟩]) []):=uaI (x:=⟨⟨[((115+0 % 8:Nat):Int)],true,D18⟩,na,nc,ba18,bc18⟩) hg2 hn2 hb2 hown hgrew
                           have HF:Hid (RdA t R (W6.setCell ⟨w2.heap.size,0,none⟩ (.slice a6 (rs.length+1) c6)) i2∧Keep (fun x=>x=R∨x=w2.heap.size) W0 (W6.setCell ⟨w2.heap.size,0,none⟩ (.slice a6 (rs.length+1) c6))):=ufH hR2 hgb hg2 (by omega) HKP.out (HR18.out.2.trans ((HK5.out.trans (Keep.alloc _ _ _)).mono (fun _ q=>q.elim))) hgrew (HR18.out.1.keep (HK5.out.trans (Keep.alloc _ _ _)) (fun _ q=>q.elim))
                           clear hown hgrew hsz hg2 hn2 hb2 HM))
                    all_goals go_goals
                    all_goals go_wp2
                    all_goals go_roundw
                    all_goals first
                      | exact ugx hlt HRS0.out HSU.out (by rw [HD7.out,HD12.out,HD18.out]) HE.out HF.out
                      | (simp [intOf];omega)
      · have hk0':¬ (k:Int)=0:=by omega
        have hk0'':((k:Int) == 0)=false:=by simp;omega
        have z4:=(HG.out.later HR4.out.2 (fun x e=>by subst e;exact HRN.out) 3)
        have d0:=z4.c0
        have d1:=z4.c1
        have e0:=z4.f0
        have e1:=z4.f1
        clear z4
        go_wp2_with fail
        go_region_law
          (first
            | (refine yZ ufF rfl (.tmp 77) 3 rfl (y1:=.int .i64 (k:Int)) (by simp [Act.eval,Act.put]) ((kH k (by omega) w4.drew).mono ?_)
               rintro e W5 ⟨v,rfl,na,nc,rfl,hna,hk5⟩
               have k5:Keep (fun _=>False) w4 W5:=(Keep.drew _ _).trans hk5
               have k5':Keep (fun x=>x=R) wr W5:=HR4.out.2.trans (k5.mono (fun _ q=>q.elim))
               have z0:W5.cell? ⟨w2.heap.size,0,none⟩=some rv:=(HG.out.later k5' (fun x e=>by subst e;exact HRN.out) 3).c0
               have zl:=ub z0
               have HN5:Hid (Ints (New w4 W5) .u8 W5 na 1 (lf [((115+k % 8:Nat):Int)])):=hna
               have HK5:Hid (Keep (fun _=>False) w4 W5):=k5
               clear hna hk5 k5 k5'
               refine ⟨_,rfl,?_⟩)
            | (have HM:Hid (∃ G',zGVar w2.heap.size W0 G' (W5.alloc (.cells #[.slice na 1 nc,.slice ba0 (D0).length bc0] 39)) rv (.slice none 0 0) rs []∧Ints (zTg G' (W5.alloc (.cells #[.slice na 1 nc,.slice ba0 (D0).length bc0] 39)) 2) .u8 (W5.alloc (.cells #[.slice na 1 nc,.slice ba0 (D0).length bc0] 39)) na 1 (lf [((115+k % 8:Nat):Int)])∧BodP (zTg G' (W5.alloc (.cells #[.slice na 1 nc,.slice ba0 (D0).length bc0] 39)) (4+2*rs.length)) (W5.alloc (.cells #[.slice na 1 nc,.slice ba0 (D0).length bc0] 39)) (.slice ba0 (D0).length bc0) (D0)):=uhP (z:=[((115+k % 8:Nat):Int)]) (N:=New w4 W5) (B:=New wr w4) (4+2*rs.length) HRN.out HG.out (HR4.out.2.trans ((HK5.out.trans (Keep.alloc _ _ _)).mono (fun _ q=>q.elim))) (HN5.out.later (up W5 _)) ((HB4.out.later (HK5.out.trans (Keep.alloc _ _ _)) (fun x e=>e.elim))) (fun x q=>⟨by have:=HR4.out.2.size;have:=q.1;omega,by have:=q.2;simp;omega⟩) (fun x q=>⟨q.1,by have:=HK5.out.size;have:=q.2;simp;omega⟩) (fun x q q'=>by have:=q.1;have:=q'.2;omega)
               obtain ⟨G2,hg2,hn2,hb2⟩:=HM.out
               refine kE rfl (.tmp 76) (.tmp 81) 23 23 rfl (v:=rv) (y:=.slice (some ⟨W5.heap.size,0,none⟩) 1 1) (by simp [Act.eval,Act.put]) (by simp [Act.eval,Act.put]) uae (Q:=zTg G2 (W5.alloc (.cells #[.slice na 1 nc,.slice ba0 (D0).length bc0] 39)) 0) (n:=rs.length) (cs:=rs.flatMap vF) (news:=vF ⟨⟨[((115+k % 8:Nat):Int)],true,D0⟩,na,nc,ba0,bc0⟩) hg2.gr.rules (jx (x:=⟨⟨[((115+k % 8:Nat):Int)],true,D0⟩,na,nc,ba0,bc0⟩) (World.alloc_heap_new W5 _)) (by have:=HLEN.out;omega) ?_
               intro v6 W6 hown hgrew hsz
               obtain ⟨a6,c6,rfl⟩:=um hown
               obtain ⟨z1,_,z2,_⟩:=vf hg2 (by omega) hgrew
               have HE:Hid (∃ G',zGVar w2.heap.size W0 G' (W6.setCell ⟨w2.heap.size,0,none⟩ (.slice a6 (rs.length+1) c6)) (.slice a6 (rs.length+1) c6) (.slice none 0 0) (rs ++ [⟨⟨[((115+k % 8:Nat):Int)],true,D0⟩,na,nc,ba0,bc0⟩]) []):=uaI (x:=⟨⟨[((115+k % 8:Nat):Int)],true,D0⟩,na,nc,ba0,bc0⟩) hg2 hn2 hb2 hown hgrew
               have HF:Hid (RdA t R (W6.setCell ⟨w2.heap.size,0,none⟩ (.slice a6 (rs.length+1) c6)) i2∧Keep (fun x=>x=R∨x=w2.heap.size) W0 (W6.setCell ⟨w2.heap.size,0,none⟩ (.slice a6 (rs.length+1) c6))):=ufH hR2 hgb hg2 (by omega) HKP.out (HR4.out.2.trans ((HK5.out.trans (Keep.alloc _ _ _)).mono (fun _ q=>q.elim))) hgrew (HR4.out.1.keep (HK5.out.trans (Keep.alloc _ _ _)) (fun _ q=>q.elim))
               clear hown hgrew hsz hg2 hn2 hb2 HM))
        all_goals go_goals
        all_goals go_wp2
        all_goals go_roundw
        all_goals first
          | exact ugx hlt HRS0.out HSU.out (by rw [qo,if_neg (fun x=>hk0 x.1),qp,if_neg (fun x=>hk0 x.1),qq,if_neg (fun x=>hk0 x.1)]) HE.out HF.out
          | (simp [intOf];omega)
    · obtain rfl:k=n:=by omega
      obtain ⟨p0,hp0⟩:∃ p,vG t k m i0 k=p:=⟨_,rfl⟩
      have HRS0:Hid (rs.map (·.d)=p0.1):=hp0 ▸ HRS.out
      have HRD0:Hid (RdA t R wr p0.2):=hp0 ▸ HRD.out
      have HGR0:Hid (((p0.1,vP p0.1 (vm t k p0.2 m).1 m),(vm t k p0.2 m).2)=g):=hp0 ▸ HGR.out
      have HSM:Hid (∀ x∈rs,x.d.bd.length≤1048576):=fun x hx=>Nat.le_trans (jU t k m i0 k x.d (by rw [hp0,← HRS0.out];exact List.mem_map.2 ⟨x,hx,rfl⟩)).1 (by omega)
      clear hp0 HRS HRD HGR hlt
      obtain ⟨wa,hwa⟩:∃ x,x=wr:=⟨_,rfl⟩
      subst hwa
      have hsz0:=HKP.out.size
      go_wp2_with fail
      simp only [hm']
      go_loopw [9] (fun iv wr=>dlI t R w2.heap.size W0 k m p0.2 rv rs iv wr) (fun iv _=>m-(intOf iv).toNat)
      case atStart=>exact ⟨0,G,[],_,Nat.zero_le _,rfl,HG.out,rfl,HRD0.out,HKP.out⟩
      case round =>
        obtain ⟨j,G1,ls,lv,hj,rfl,hg,hls,hrd,hkeep⟩:=hrel
        have HG1:Hid (zGVar w2.heap.size W0 G1 wr rv lv rs ls):=hg
        have HLS:Hid (ls.map (·.d)=(vm t k p0.2 j).1):=hls
        have HRD:Hid (RdA t R wr (vm t k p0.2 j).2):=hrd
        have HK1:Hid (Keep (fun b=>b=R∨b=w2.heap.size) W0 wr):=hkeep
        have hRr1:=hrd.lt
        have hszr:=hkeep.size
        have HLN:Hid (ls.length=j):=by
          show ls.length=j
          rw [← List.length_map (f:=(·.d)),hls];exact jT t k p0.2 j
        clear hg hls hrd hkeep
        by_cases hlt:j<m
        · have hlt':(j:Int)<(m:Int):=by omega
          have hj3:j<3:=by omega
          obtain ⟨q,hq⟩:∃ p,jS t k (vm t k p0.2 j).2=p:=⟨_,rfl⟩
          have HQ:Hid (jS t k (vm t k p0.2 j).2=q):=hq
          obtain ⟨i1,hi1⟩:∃ p,(vm t k p0.2 j).2=p:=⟨_,rfl⟩
          rw [hi1] at hq
          have HRD1:Hid (RdA t R wr i1):=hi1 ▸ HRD.out
          have hlc:=ulQ wr j hj3 (t:=9)
          have hvl:=t.v_le i1
          clear hi1 HRD
          go_upto_region 20 with fail
          generalize hA1:wr.alloc (.cells #[.string ⟨#[101,49]⟩,.string ⟨#[101,114,114]⟩,.string ⟨#[109,105,100,95,50]⟩] 9)=A1 at *
          have HA1:Hid (Keep (fun _=>False) wr A1):=hA1 ▸ Keep.alloc _ _ _
          clear hA1
          go_wp2_with (refine uiN rfl _ rfl rfl ?_;intro na nc A2 h1 h2;rw [ueT] at h1;rw [ueT];have HN:Hid (Ints (New A1 A2) .u8 A2 na (uab j).length (lf (uab j))):=h1;have HA2:Hid (Keep (fun _=>False) A1 A2):=h2;clear h1 h2)
          generalize hz:uab j=z at *
          have HZN:Hid (uab j=z):=hz
          clear hz hlc
          generalize hA3:A2.alloc (.cells #[.slice na z.length nc,.bool false,.slice none 0 0] 42)=A3 at *
          have HLB3:Hid (Lb A2.heap.size A3 (.slice na z.length nc) false (.slice none 0 0)):=hA3 ▸ uo6 A2 _
          have HA3:Hid (Keep (fun _=>False) A2 A3):=hA3 ▸ Keep.alloc _ _ _
          have hs3:A3.heap.size=A2.heap.size+1:=by rw [← hA3];simp
          clear hA3
          have hs1:=HA1.out.size
          have hs2:=HA2.out.size
          have hR3:RdOn t R i1 wr A3:=(((RdOn.refl HRD1.out).quiet HA1.out).quiet HA2.out).quiet HA3.out
          refine (uN t R i1 A3 hR3.1).mono ?_
          rintro e A4 ⟨rfl,hon⟩
          have HR4:Hid (RdOn t R (t.n i1) wr A4):=hR3.trans hon
          have HL4:Hid (Lb A2.heap.size A4 (.slice na z.length nc) false (.slice none 0 0)):=HLB3.out.keep hon.2 (fun e=>by omega)
          have HN4:Hid (Ints (New A1 A2) .u8 A4 na z.length (lf z)):=(HN.out.kept HA3.out (fun _ _ x=>x)).kept hon.2 (fun b x e=>by have:=x.1;omega)
          have hs4:=hon.2.size
          clear hon hR3 HLB3 HRD1
          unfold jS at hq
          generalize t.v i1=kc at *
          generalize t.n i1=i2 at *
          obtain ⟨c,hc⟩:∃ c:Nat,kc % 8=c:=⟨_,rfl⟩
          have hc':(kc:Int) % 8=(c:Int):=by omega
          have hcl:c<8:=by omega
          rw [hc] at hq
          clear hc
          go_upto_if 100 with fail
          go_cut [12] from 84 to 132 (fun v wc=>v = .int .i64 (c:Int)∧∃ ba bc,Lb A2.heap.size wc (.slice na z.length nc) q.1.1 (.slice ba q.1.2.length bc)∧BodP (New A3 wc) wc (.slice ba q.1.2.length bc) q.1.2∧RdOn t R q.2 wr wc∧Ints (New A1 A2) .u8 wc na z.length (lf z))
          case first =>
            have l1:=HL4.out.c1
            have lf1:=HL4.out.f1
            by_cases b1:c<6
            · have b1':(c:Int)<6:=by omega
              rw [if_pos b1] at hq
              have HL5:Hid (Lb A2.heap.size (A4.setCell ⟨A2.heap.size,1,none⟩ (.bool true)) (.slice na z.length nc) true (.slice none 0 0)):=HL4.out.set1 true
              have HR5:Hid (RdOn t R i2 wr (A4.setCell ⟨A2.heap.size,1,none⟩ (.bool true))):=HR4.out.set (by omega) (by omega)
              have HN5:Hid (Ints (New A1 A2) .u8 (A4.setCell ⟨A2.heap.size,1,none⟩ (.bool true)) na z.length (lf z)):=HN4.out.kept (Keep.setCell (C:=fun b=>b=A2.heap.size) _ _ _ rfl) (fun b x e=>by have:=x.2;omega)
              have hs5:A4.heap.size=(A4.setCell ⟨A2.heap.size,1,none⟩ (.bool true)).heap.size:=(ul _ _ _).symm
              go_upto_if 103 with fail
              generalize A4.setCell ⟨A2.heap.size,1,none⟩ (.bool true)=w5 at *
              clear l1 lf1
              by_cases b2:c<2
              · have b2':(c:Int)<2:=by omega
                rw [if_pos b2] at hq
                obtain ⟨s,hs⟩:∃ p,yr t i2=p:=⟨_,rfl⟩
                have ucS:s.1.length≤4:=hs ▸ vw t i2
                rw [hs] at hq
                subst hq
                go_wp2_with fail
                refine (uZ t R i2 w5 HR5.out.1 s hs).mono ?_
                rintro e w6 ⟨as6,cs6,rfl,hI,hon⟩
                have HR6:Hid (RdOn t R s.2 wr w6):=HR5.out.trans hon
                have HI6:Hid (Ints (fun b=>b≠R) .i64 w6 as6 s.1.length (lf s.1)):=hI
                have HL6:Hid (Lb A2.heap.size w6 (.slice na z.length nc) true (.slice none 0 0)):=HL5.out.keep hon.2 (fun e=>by omega)
                have HN6:Hid (Ints (New A1 A2) .u8 w6 na z.length (lf z)):=HN5.out.kept hon.2 (fun b x e=>by have:=x.1;omega)
                have hs6:=hon.2.size
                clear hon hI
                go_wp2_with fail
                refine (uU _ as6 cs6 s.1 w6 HI6.out (by omega)).mono ?_
                rintro e w7 ⟨a7,c7,rfl,hbod,hkk⟩
                have HR7:Hid (RdOn t R s.2 wr w7):=HR6.out.quiet hkk
                have HL7:Hid (Lb A2.heap.size w7 (.slice na z.length nc) true (.slice none 0 0)):=HL6.out.keep hkk (fun e=>e)
                have HN7:Hid (Ints (New A1 A2) .u8 w7 na z.length (lf z)):=HN6.out.kept hkk (fun _ _ x=>x)
                have hs7:=hkk.size
                have HX7s:Hid (OpsA (fun x=>x≠R) w7 a7 (ui s.1).length (df (ui s.1))):=uW hbod HR6.out.1.lt
                clear hbod hkk
                go_wp2_with fail
                refine (vT _ 7 a7 c7 (ui s.1) w7 HX7s.out (Lil.small (uF (s:=s.1) (by omega)) (by omega))).mono ?_
                rintro e w8 ⟨a8,c8,rfl,hbod,hkk⟩
                have HR8:Hid (RdOn t R s.2 wr w8):=HR7.out.quiet hkk
                have HL8:Hid (Lb A2.heap.size w8 (.slice na z.length nc) true (.slice none 0 0)):=HL7.out.keep hkk (fun e=>e)
                have HN8:Hid (Ints (New A1 A2) .u8 w8 na z.length (lf z)):=HN7.out.kept hkk (fun _ _ x=>x)
                have hs8:=hkk.size
                have HX8s:Hid (OpsA (fun x=>x≠R) w8 a7 (ui s.1).length (df (ui s.1))):=HX7s.out.kept hkk (fun _ _ x=>x)
                have HX8u:Hid (OpsA (fun x=>x≠R) w8 a8 (unD 7 (ui s.1)).length (df (unD 7 (ui s.1)))):=uW hbod HR7.out.1.lt
                clear hbod hkk
                go_wp2_with fail
                generalize hA9:w8.alloc (.cells #[.int .i64 0,.int .i64 255] 3)=w9 at *
                have kA9:Keep (fun _=>False) w8 w9:=hA9 ▸ Keep.alloc _ _ _
                have HI9:Hid (Ints (fun _=>True) .i64 w9 (some ⟨w8.heap.size,0,none⟩) [(0:Int),255].length (lf [(0:Int),255])):=hA9 ▸ xO w8 _ _ 3
                have HR9:Hid (RdOn t R s.2 wr w9):=HR8.out.quiet kA9
                have HL9:Hid (Lb A2.heap.size w9 (.slice na z.length nc) true (.slice none 0 0)):=HL8.out.keep kA9 (fun e=>e)
                have HN9:Hid (Ints (New A1 A2) .u8 w9 na z.length (lf z)):=HN8.out.kept kA9 (fun _ _ x=>x)
                have hs9:=kA9.size
                have HX9s:Hid (OpsA (fun x=>x≠R) w9 a7 (ui s.1).length (df (ui s.1))):=HX8s.out.kept kA9 (fun _ _ x=>x)
                have HX9u:Hid (OpsA (fun x=>x≠R) w9 a8 (unD 7 (ui s.1)).length (df (unD 7 (ui s.1)))):=HX8u.out.kept kA9 (fun _ _ x=>x)
                clear kA9 hA9
                go_wp2_with fail
                refine (uU _ _ 2 [(0:Int),255] w9 HI9.out (by simp)).mono ?_
                rintro e w10 ⟨a10,c10,rfl,hbod,hkk⟩
                have HR10:Hid (RdOn t R s.2 wr w10):=HR9.out.quiet hkk
                have HL10:Hid (Lb A2.heap.size w10 (.slice na z.length nc) true (.slice none 0 0)):=HL9.out.keep hkk (fun e=>e)
                have HN10:Hid (Ints (New A1 A2) .u8 w10 na z.length (lf z)):=HN9.out.kept hkk (fun _ _ x=>x)
                have hs10:=hkk.size
                have HX10s:Hid (OpsA (fun x=>x≠R) w10 a7 (ui s.1).length (df (ui s.1))):=HX9s.out.kept hkk (fun _ _ x=>x)
                have HX10u:Hid (OpsA (fun x=>x≠R) w10 a8 (unD 7 (ui s.1)).length (df (unD 7 (ui s.1)))):=HX9u.out.kept hkk (fun _ _ x=>x)
                have HX10v:Hid (OpsA (fun x=>x≠R) w10 a10 (ui [0,255]).length (df (ui [0,255]))):=uW hbod HR9.out.1.lt
                clear hbod hkk
                go_wp2_with fail
                refine (uV _ _ 4 a8 a10 c8 c10 (unD 7 (ui s.1)) (ui [0,255]) w10 HX10u.out (Lil.small (ye 7 (uF (s:=s.1) (by omega))) (by omega)) HX10v.out (Lil.small (uF (s:=[0,255]) (by simp)) (by omega)) (by simp [ui])).mono ?_
                rintro e w11 ⟨a11,c11,rfl,hbod,hkk⟩
                have HR11:Hid (RdOn t R s.2 wr w11):=HR10.out.quiet hkk
                have HL11:Hid (Lb A2.heap.size w11 (.slice na z.length nc) true (.slice none 0 0)):=HL10.out.keep hkk (fun e=>e)
                have HN11:Hid (Ints (New A1 A2) .u8 w11 na z.length (lf z)):=HN10.out.kept hkk (fun _ _ x=>x)
                have hs11:=hkk.size
                have HX11s:Hid (OpsA (fun x=>x≠R) w11 a7 (ui s.1).length (df (ui s.1))):=HX10s.out.kept hkk (fun _ _ x=>x)
                have HX11u:Hid (OpsA (fun x=>x≠R) w11 a8 (unD 7 (ui s.1)).length (df (unD 7 (ui s.1)))):=HX10u.out.kept hkk (fun _ _ x=>x)
                have HX11v:Hid (OpsA (fun x=>x≠R) w11 a10 (ui [0,255]).length (df (ui [0,255]))):=HX10v.out.kept hkk (fun _ _ x=>x)
                have HX11b:Hid (OpsA (fun x=>x≠R) w11 a11 (uw 4 (unD 7 (ui s.1)) (ui [0,255])).length (df (uw 4 (unD 7 (ui s.1)) (ui [0,255])))):=uW hbod HR10.out.1.lt
                clear hbod hkk
                go_wp2_with fail
                refine (vT _ 6 a11 c11 (uw 4 (unD 7 (ui s.1)) (ui [0,255])) w11 HX11b.out (Lil.small (vg 4 (ye 7 (uF (s:=s.1) (by omega))) (uF (s:=[0,255]) (by simp))) (by omega))).mono ?_
                rintro e w12 ⟨a12,c12,rfl,hbod,hkk⟩
                have HR12:Hid (RdOn t R s.2 wr w12):=HR11.out.quiet hkk
                have HF:Hid (Lb A2.heap.size (w12.setCell ⟨A2.heap.size,2,none⟩ (.slice a12 (unD 6 (uw 4 (unD 7 (ui s.1)) (ui [0,255]))).length c12)) (.slice na z.length nc) true (.slice a12 (unD 6 (uw 4 (unD 7 (ui s.1)) (ui [0,255]))).length c12)∧BodP (New A3 (w12.setCell ⟨A2.heap.size,2,none⟩ (.slice a12 (unD 6 (uw 4 (unD 7 (ui s.1)) (ui [0,255]))).length c12))) (w12.setCell ⟨A2.heap.size,2,none⟩ (.slice a12 (unD 6 (uw 4 (unD 7 (ui s.1)) (ui [0,255]))).length c12)) (.slice a12 (unD 6 (uw 4 (unD 7 (ui s.1)) (ui [0,255]))).length c12) (unD 6 (uw 4 (unD 7 (ui s.1)) (ui [0,255])))∧RdOn t R s.2 wr (w12.setCell ⟨A2.heap.size,2,none⟩ (.slice a12 (unD 6 (uw 4 (unD 7 (ui s.1)) (ui [0,255]))).length c12))∧Ints (New A1 A2) .u8 (w12.setCell ⟨A2.heap.size,2,none⟩ (.slice a12 (unD 6 (uw 4 (unD 7 (ui s.1)) (ui [0,255]))).length c12)) na z.length (lf z)):=ufI HR12.out HL11.out HN11.out (hkk.mono (fun _ x=>x.elim)) hbod rfl hs3 (by omega) (by omega) hRr1 hs1
                have HLn:Lb A2.heap.size w12 (.slice na z.length nc) true (.slice none 0 0):=HL11.out.keep (C:=fun b=>b=R) (hkk.mono (fun _ x=>x.elim)) (fun e=>by omega)
                have l2:=HLn.c2
                have lf2:=HLn.f2
                clear hbod HLn
                go_wp2_with fail
                go_meet
                exact ⟨by first | rfl | (rw [b3']) | (rw [b4']),a12,c12,HF.out⟩
              have b2':¬ (c:Int)<2:=by omega
              rw [if_neg b2] at hq
              by_cases b3:c=2
              · have b3':(c:Int)=2:=by omega
                rw [if_pos b3] at hq
                subst hq
                go_wp2_with fail
                refine (uG 0 0 w5).mono ?_
                rintro e w13 ⟨a13,c13,rfl,hbod,hkk⟩
                have HR13:Hid (RdOn t R i2 wr w13):=HR5.out.quiet hkk
                have HF:Hid (Lb A2.heap.size (w13.setCell ⟨A2.heap.size,2,none⟩ (.slice a13 (uf 0 0).length c13)) (.slice na z.length nc) true (.slice a13 (uf 0 0).length c13)∧BodP (New A3 (w13.setCell ⟨A2.heap.size,2,none⟩ (.slice a13 (uf 0 0).length c13))) (w13.setCell ⟨A2.heap.size,2,none⟩ (.slice a13 (uf 0 0).length c13)) (.slice a13 (uf 0 0).length c13) (uf 0 0)∧RdOn t R i2 wr (w13.setCell ⟨A2.heap.size,2,none⟩ (.slice a13 (uf 0 0).length c13))∧Ints (New A1 A2) .u8 (w13.setCell ⟨A2.heap.size,2,none⟩ (.slice a13 (uf 0 0).length c13)) na z.length (lf z)):=ufI HR13.out HL5.out HN5.out (hkk.mono (fun _ x=>x.elim)) hbod rfl hs3 (by omega) (by omega) hRr1 hs1
                have HLn:Lb A2.heap.size w13 (.slice na z.length nc) true (.slice none 0 0):=HL5.out.keep (C:=fun b=>b=R) (hkk.mono (fun _ x=>x.elim)) (fun e=>by omega)
                have l2:=HLn.c2
                have lf2:=HLn.f2
                clear hbod HLn
                go_wp2_with fail
                go_meet
                exact ⟨by first | rfl | (rw [b3']) | (rw [b4']),a13,c13,HF.out⟩
              have b3':¬ (c:Int)=2:=by omega
              rw [if_neg b3] at hq
              by_cases b4:c=3
              · have b4':(c:Int)=3:=by omega
                rw [if_pos b4] at hq
                subst hq
                go_wp2_with fail
                generalize hA14:w5.alloc (.cells #[.int .i64 0,.int .i64 255] 3)=w14 at *
                have kA14:Keep (fun _=>False) w5 w14:=hA14 ▸ Keep.alloc _ _ _
                have HI14:Hid (Ints (fun _=>True) .i64 w14 (some ⟨w5.heap.size,0,none⟩) [(0:Int),255].length (lf [(0:Int),255])):=hA14 ▸ xO w5 _ _ 3
                have HR14:Hid (RdOn t R i2 wr w14):=HR5.out.quiet kA14
                have HL14:Hid (Lb A2.heap.size w14 (.slice na z.length nc) true (.slice none 0 0)):=HL5.out.keep kA14 (fun e=>e)
                have HN14:Hid (Ints (New A1 A2) .u8 w14 na z.length (lf z)):=HN5.out.kept kA14 (fun _ _ x=>x)
                have hs14:=kA14.size
                clear kA14 hA14
                go_wp2_with fail
                refine (uU _ _ 2 [(0:Int),255] w14 HI14.out (by simp)).mono ?_
                rintro e w15 ⟨a15,c15,rfl,hbod,hkk⟩
                have HR15:Hid (RdOn t R i2 wr w15):=HR14.out.quiet hkk
                have HF:Hid (Lb A2.heap.size (w15.setCell ⟨A2.heap.size,2,none⟩ (.slice a15 (ui [0,255]).length c15)) (.slice na z.length nc) true (.slice a15 (ui [0,255]).length c15)∧BodP (New A3 (w15.setCell ⟨A2.heap.size,2,none⟩ (.slice a15 (ui [0,255]).length c15))) (w15.setCell ⟨A2.heap.size,2,none⟩ (.slice a15 (ui [0,255]).length c15)) (.slice a15 (ui [0,255]).length c15) (ui [0,255])∧RdOn t R i2 wr (w15.setCell ⟨A2.heap.size,2,none⟩ (.slice a15 (ui [0,255]).length c15))∧Ints (New A1 A2) .u8 (w15.setCell ⟨A2.heap.size,2,none⟩ (.slice a15 (ui [0,255]).length c15)) na z.length (lf z)):=ufI HR15.out HL14.out HN14.out (hkk.mono (fun _ x=>x.elim)) hbod rfl hs3 (by omega) (by omega) hRr1 hs1
                have HLn:Lb A2.heap.size w15 (.slice na z.length nc) true (.slice none 0 0):=HL14.out.keep (C:=fun b=>b=R) (hkk.mono (fun _ x=>x.elim)) (fun e=>by omega)
                have l2:=HLn.c2
                have lf2:=HLn.f2
                clear hbod HLn
                go_wp2_with fail
                go_meet
                exact ⟨by first | rfl | (rw [b3']) | (rw [b4']),a15,c15,HF.out⟩
              have b4':¬ (c:Int)=3:=by omega
              rw [if_neg b4] at hq
              obtain ⟨y,hy⟩:∃ p,vU t k k 0 3 false i2=p:=⟨_,rfl⟩
              rw [hy] at hq
              subst hq
              go_wp2_with fail
              refine (qn t R k k 0 (by omega) (by omega) (by omega) 3 3 rfl false i2 w5 y (by omega) HR5.out.1 hy).mono ?_
              rintro e w16 ⟨a16,c16,rfl,hbod,hon⟩
              have HR16:Hid (RdOn t R y.2 wr w16):=HR5.out.trans hon
              have HF:Hid (Lb A2.heap.size (w16.setCell ⟨A2.heap.size,2,none⟩ (.slice a16 (y.1).length c16)) (.slice na z.length nc) true (.slice a16 (y.1).length c16)∧BodP (New A3 (w16.setCell ⟨A2.heap.size,2,none⟩ (.slice a16 (y.1).length c16))) (w16.setCell ⟨A2.heap.size,2,none⟩ (.slice a16 (y.1).length c16)) (.slice a16 (y.1).length c16) (y.1)∧RdOn t R y.2 wr (w16.setCell ⟨A2.heap.size,2,none⟩ (.slice a16 (y.1).length c16))∧Ints (New A1 A2) .u8 (w16.setCell ⟨A2.heap.size,2,none⟩ (.slice a16 (y.1).length c16)) na z.length (lf z)):=ufI HR16.out HL5.out HN5.out (hon.2) hbod rfl hs3 (by omega) (by omega) hRr1 hs1
              have HLn:Lb A2.heap.size w16 (.slice na z.length nc) true (.slice none 0 0):=HL5.out.keep (C:=fun b=>b=R) (hon.2) (fun e=>by omega)
              have l2:=HLn.c2
              have lf2:=HLn.f2
              clear hbod HLn
              go_wp2_with fail
              go_meet
              exact ⟨by first | rfl | (rw [b3']) | (rw [b4']),a16,c16,HF.out⟩
            · have b1':¬ (c:Int)<6:=by omega
              rw [if_neg b1] at hq
              subst hq
              go_wp2_with fail
              go_meet
              exact ⟨rfl,none,0,HL4.out,udH _ _,HR4.out,HN4.out⟩
          case rest =>
            obtain ⟨rfl,ba,bc,hL5,hB5,hR5,hN5⟩:=hcut
            obtain ⟨A5,hw⟩:∃ x,x=wc:=⟨_,rfl⟩
            subst hw
            have HB5:Hid (BodP (New A3 A5) A5 (.slice ba q.1.2.length bc) q.1.2):=hB5
            have HR5:Hid (RdOn t R q.2 wr A5):=hR5
            have HN5:Hid (Ints (New A1 A2) .u8 A5 na z.length (lf z)):=hN5
            have gv:=HG1.out.later hR5.2 (fun x e=>by subst e;exact HRN.out) 3
            have g0:=gv.c0
            have g1:=gv.c1
            have gf0:=gv.f0
            have gf1:=gv.f1
            have l0:=hL5.c0
            have l1:=hL5.c1
            have l2:=hL5.c2
            have hs5:=hR5.2.size
            have hs6:A2.heap.size<A5.heap.size:=ub hL5.c0
            have HSZ5:Hid (∀ b,New A1 A2 b→b<A5.heap.size):=fun b x=>by have h1:=x.2;have h2:A2.heap.size<A5.heap.size:=ub hL5.c0;omega
            clear hL5 hB5 hR5 hN5 gv
            have HM:Hid (∃ G',zGVar w2.heap.size W0 G' (A5.alloc (.cells #[.slice na z.length nc,.bool q.1.1,.slice ba q.1.2.length bc] 42)) rv lv rs ls∧Ints (zTg G' (A5.alloc (.cells #[.slice na z.length nc,.bool q.1.1,.slice ba q.1.2.length bc] 42)) 2) .u8 (A5.alloc (.cells #[.slice na z.length nc,.bool q.1.1,.slice ba q.1.2.length bc] 42)) na z.length (lf z)∧BodP (zTg G' (A5.alloc (.cells #[.slice na z.length nc,.bool q.1.1,.slice ba q.1.2.length bc] 42)) (5+2*ls.length)) (A5.alloc (.cells #[.slice na z.length nc,.bool q.1.1,.slice ba q.1.2.length bc] 42)) (.slice ba q.1.2.length bc) q.1.2):=uhP (N:=New A1 A2) (B:=New A3 A5) (5+2*ls.length) HRN.out HG1.out (HR5.out.2.trans (Keep.alloc _ _ _)) (HN5.out.later (up A5 _)) ((HB5.out.later (C:=fun _=>False) (Keep.alloc _ _ _) (fun x e=>e.elim))) (fun x y=>⟨by have:=y.1;omega,by have:=HSZ5.out x y;simp;omega⟩) (fun x y=>⟨by have:=y.1;omega,by have:=y.2;simp;omega⟩) (fun x y y'=>by have:=y.2;have:=y'.1;omega)
            obtain ⟨G2,hg2,hn2,hb2⟩:=HM.out
            have HG2:Hid (zGVar w2.heap.size W0 G2 (A5.alloc (.cells #[.slice na z.length nc,.bool q.1.1,.slice ba q.1.2.length bc] 42)) rv lv rs ls):=hg2
            have HN2:Hid (Ints (zTg G2 (A5.alloc (.cells #[.slice na z.length nc,.bool q.1.1,.slice ba q.1.2.length bc] 42)) 2) .u8 (A5.alloc (.cells #[.slice na z.length nc,.bool q.1.1,.slice ba q.1.2.length bc] 42)) na z.length (lf z)):=hn2
            have HB2:Hid (BodP (zTg G2 (A5.alloc (.cells #[.slice na z.length nc,.bool q.1.1,.slice ba q.1.2.length bc] 42)) (5+2*ls.length)) (A5.alloc (.cells #[.slice na z.length nc,.bool q.1.1,.slice ba q.1.2.length bc] 42)) (.slice ba q.1.2.length bc) q.1.2):=hb2
            clear hg2 hn2 hb2 HM
            go_wp2_with (at_builtin;refine uai rfl _ _ 24 24 rfl rfl rfl uak (v:=lv) (Q:=zTg G2 (A5.alloc (.cells #[.slice na z.length nc,.bool q.1.1,.slice ba q.1.2.length bc] 42)) 1) (n:=ls.length) (cs:=ls.flatMap vC) (news:=vC ⟨⟨z,q.1.1,q.1.2⟩,na,nc,ba,bc⟩) HG2.out.gr.labs (xA (x:=⟨⟨z,q.1.1,q.1.2⟩,na,nc,ba,bc⟩) (World.alloc_heap_new A5 _)) (by have:=HLN.out;omega) ?_;intro v6 W6 hown hgrew hsz;obtain ⟨a6,c6,rfl⟩:=um hown;obtain ⟨_,z1,_,z2⟩:=vf HG2.out (by omega) hgrew;have HE:Hid (∃ G',zGVar w2.heap.size W0 G' (W6.setCell ⟨w2.heap.size,1,none⟩ (.slice a6 (ls.length+1) c6)) rv (.slice a6 (ls.length+1) c6) rs (ls ++ [⟨⟨z,q.1.1,q.1.2⟩,na,nc,ba,bc⟩])):=ufG (x:=⟨⟨z,q.1.1,q.1.2⟩,na,nc,ba,bc⟩) HG2.out HN2.out HB2.out hown hgrew;have HF:Hid (RdA t R (W6.setCell ⟨w2.heap.size,1,none⟩ (.slice a6 (ls.length+1) c6)) q.2∧Keep (fun x=>x=R∨x=w2.heap.size) W0 (W6.setCell ⟨w2.heap.size,1,none⟩ (.slice a6 (ls.length+1) c6))):=ufH hR2 hgb HG2.out (by omega) HK1.out (HR5.out.2.trans (Keep.alloc _ _ _)) hgrew (HR5.out.1.keep (Keep.alloc (fun _=>False) _ _) (fun _ x=>x.elim));clear hown hgrew hsz)
            go_roundw
            all_goals first
              | exact ulP hlt HLS.out HQ.out (by rw [HZN.out];exact HE.out) HF.out
              | (simp [intOf];omega)
        · obtain rfl:j=m:=by omega
          obtain ⟨ra,rc,rfl⟩:=um HG1.out.gr.rules
          obtain ⟨la,lc,rfl⟩:=um HG1.out.gr.labs
          have g0:=HG1.out.c0
          have g1:=HG1.out.c1
          have htw:zTwo w.heap.size wr:=HTW0.out.keep HK1.out (fun x=>by rcases x with x | x <;> omega)
          have HTW1:Hid (zTwo w.heap.size wr):=htw
          clear htw
          go_wp2_with fail
          refine (uhW W0 wr G1 ra la rc lc rs ls HG1.out.gr HG1.out.le (by have:=HLEN.out;omega) (by have:=HLN.out;omega) HSM.out).mono ?_
          rintro e w9 ⟨G9,ls9,rfl,hgr9,hls9,hk9⟩
          obtain ⟨t0,t1,f0,f1⟩:=HTW1.out.keep hk9 (fun x=>by omega)
          have HLS9:Hid (ls9.map (·.d)=vP p0.1 (vm t k p0.2 j).1 j):=by
            show _=_
            rw [hls9,HRS0.out,HLS.out,jT]
          have hG9:G9 w.heap.size=3:=hgr9.tag (by omega)
          have HO:Hid (zGrP w G9 ((w9.setCell ⟨w.heap.size,0,none⟩ (.slice ra rs.length rc)).setCell ⟨w.heap.size,1,none⟩ (.slice la ls.length lc)) (.slice ra rs.length rc) (.slice la ls.length lc) rs ls9):=((hgr9.set hG9).set hG9).base (by omega)
          have HRO:Hid (RdOn t R (vm t k p0.2 j).2 w ((w9.setCell ⟨w.heap.size,0,none⟩ (.slice ra rs.length rc)).setCell ⟨w.heap.size,1,none⟩ (.slice la ls.length lc))):=by
            refine RdOn.set (RdOn.set ⟨HRD.out.keep hk9 (fun b x=>by omega),uaJ (uaJ HKW0.out HK1.out (fun b x=>?_)) hk9 (fun b x=>.inr (by omega))⟩ (Nat.le_refl _) hRw) (Nat.le_refl _) hRw
            rcases x with x | x
            · exact .inl x
            · exact .inr (by omega)
          clear hgr9 hls9 hk9 hG9
          go_wp2
          refine bodyPost_ret (v:=.agg #[.slice ra rs.length rc,.slice la ls.length lc]) ?_ rfl ?_
          · simp [results,Tryz.f29,go_sem, *]
          · refine ⟨_,_,G9,rs,ls9,rfl,HO.out,?_,?_,?_⟩
            · rw [← HGR0.out];exact HRS0.out
            · rw [← HGR0.out];exact HLS9.out
            · rw [← HGR0.out];exact HRO.out
end
end Go.Proofs.YthicmmhmmfhncaaGreat
