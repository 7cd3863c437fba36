import Derived.Test.YtpghlcdkfldlpaaGreatT11
set_option linter.unusedVariables false
set_option linter.unusedSimpArgs false
set_option maxHeartbeats 40000000
set_option maxRecDepth 100000
namespace Go.Proofs.YtpghlcdkfldlpaaGreat
open Go.RowKit
open M (OpD ue Gr)
def dlI (t : Tp) (R c : Nat) (a : World) (n m e : Nat) (j : Value) (i : List zNC) (g : Value) (wr : World) : Prop :=
  ∃ (k:Nat) (G:Nat->Nat) (f:List zNC) (h:Value),k<=m/\g = .int .i64 (k:Int)/\zGVar c a G wr j h i f/\f.map (·.d)=(vg t n e k).1/\RdA t R wr (vg t n e k).2/\Keep (fun b=>b=R\/b=c) a wr
theorem ulN {t R c b W n m e k j i h}{q : (Bool × List OpD) × Nat}{s ba u bc v}(r : k<m)(p : h.map (·.d)=(vg t n e k).1)(g : qL t n (vg t n e k).2=q)(l : ∃ a,zGVar c b a W j v i (h ++ [⟨⟨uaF k,q.1.1,q.1.2⟩,s,u,ba,bc⟩]))(f : RdA t R W q.2/\Keep (fun x=>x=R\/x=c) b W) : dlI t R c b n m e j i (.int .i64 ((k+1 : Nat) : Int)) W:=by
  obtain ⟨a,o⟩:=l
  refine ⟨k+1,a,_,v,r,rfl,o,?_,?_,f.2⟩
  · rw [vg,List.map_append,p,g];rfl
  · rw [vg,g];exact f.1
def uhX (k : Nat) : ByteArray:=if k=0 then ⟨#[101,49]⟩ else if k=1 then ⟨#[101,114,114]⟩ else ⟨#[109,105,100,95,50]⟩
theorem ueC k : bytesOf (uhX k)=uaF k:=by
  unfold uhX uaF
  split
  · rfl
  · split
    · rfl
    · rfl
theorem ulO (w : World)(k : Nat)(b : k<3){t} : (w.alloc (.cells #[.string ⟨#[101,49]⟩,.string ⟨#[101,114,114]⟩,.string ⟨#[109,105,100,95,50]⟩] t)).cell? ⟨w.heap.size,k,none⟩=some (.string (uhX k)):=by
  have a:=World.alloc_heap_new w (.cells #[.string ⟨#[101,49]⟩,.string ⟨#[101,114,114]⟩,.string ⟨#[109,105,100,95,50]⟩] t)
  simp only [World.cell?,a]
  match k,b with
  | 0,_=>rfl
  | 1,_=>rfl
  | 2,_=>rfl
theorem bvF {p : Prop} [Decidable p] {b : Bool} (e : decide p=b) (h : ¬ p) : Value.bool false = .bool b:=by rw [<- e,decide_eq_false h]
theorem ugp {n b}k m c(h : Lil n b) : Lil (n+2) (ucF k m c b):=by
  unfold ucF
  split
  · exact yG 4 h (xO 2 1)
  · exact h.mono (by omega)
theorem ugq {n b}k c(h : Lil n b) : Lil (n+3) (uc9 k c b):=by
  unfold uc9
  split
  · exact yG 4 h (qN 7 (qk (by simp)))
  · exact h.mono (by omega)
theorem ugr {n b}k m c(h : Lil n b) : Lil (n+4) (ueh k m c b):=by
  unfold ueh
  split
  · exact (yG 4 (yG 5 (qk (s:=vI 97) (by simp [vI])) (xO 3 0)) h).mono (by omega)
  · exact h.mono (by omega)
theorem un8 {b}k m c(h : 0<b.length) : 0<(ucF k m c b).length:=by
  unfold ucF
  split
  · simp [uK];omega
  · exact h
theorem un9 {b}k c(h : 0<b.length) : 0<(uc9 k c b).length:=by
  unfold uc9
  split
  · simp [uK];omega
  · exact h
theorem uaT t n m a : ∀ (k : Nat) (x : zNL),x∈(ve t n m a k).1->Lil 300 x.bd
  | 0,x,h=>by cases h
  | k+1,x,h=>by
    rw [ve] at h
    rcases List.mem_append.1 h with q | q
    · exact uaT t n m a k x q
    · obtain rfl:=List.mem_singleton.1 q
      exact (ugr _ _ _ (ugq _ _ (ugp _ _ _ ((kB t k n m 5 false _).mono (uhV (by omega)))))).mono (by omega)
theorem uoa : vV 26 73 3 56:=⟨Tryz.underlying26,⟨_,ulB,rfl⟩,by omega⟩
theorem jd t R i w(h : RdA t R w i)(g : (List zNL × List zNL) × Nat)(aq : vH t i=g) :
    Calls Tryz.prog 49 #[.pointer (some ⟨R,0,none⟩)] w (DrG t R g w):=by
  have hv:=t.v_le i
  have db:=t.v_le (t.n i)
  have cd:=h.lt
  go_enter Tryz.func49,Tryz.ntmps49
  go_wp2_with fail
  refine (uu t R i _ (h.keep (Keep.alloc (fun _=>False) _ _) (fun _ q=>q.elim))).mono ?_
  rintro e w1 ⟨rfl,bl⟩
  go_wp2_with fail
  refine (uu t R (t.n i) _ bl.1).mono ?_
  rintro e O ⟨rfl,ci⟩
  have Z:=bl.trans ci
  have HR:Hid (RdOn t R (t.n (t.n i)) (w.alloc (.cells #[.slice none 0 0,.slice none 0 0] 28)) O):=Z
  have cc:=Z.1.lt
  clear bl ci Z h
  unfold vH at aq
  dsimp only at aq
  generalize t.v i=kn at *
  generalize t.v (t.n i)=km at *
  generalize t.n (t.n i)=S at *
  obtain ⟨n,hn⟩:∃ n:Nat,1+kn % 4=n:=⟨_,rfl⟩
  have hn':1+(kn:Int) % 4=(n:Int):=by omega
  have dr:n<=4:=by omega
  obtain ⟨m,hm⟩:∃ m:Nat,km % 4=m:=⟨_,rfl⟩
  have hm':(km:Int) % 4=(m:Int):=by omega
  have dq:m<=3:=by omega
  rw [hn,hm] at aq
  have bt:Hid ((((ve t n m S n).1,vL (ve t n m S n).1 (vg t n (ve t n m S n).2 m).1 m),(vg t n (ve t n m S n).2 m).2)=g):=aq
  clear hn hm hv db aq
  go_wp2_with fail
  generalize ah:O.alloc (.cells #[.slice none 0 0,.slice none 0 0] 28)=I at *
  have ce:O.heap.size<I.heap.size:=by rw [<- ah];simp
  have cn:Hid (zGVar O.heap.size I (fun _=>3) I (.slice none 0 0) (.slice none 0 0) [] []):=by
    show zGVar _ _ _ _ _ _ _ _
    rw [<- ah]
    exact ueA O
  have cu:Hid (RdA t R I S):=by
    show RdA t R I S
    rw [<- ah]
    exact HR.out.1.keep (Keep.alloc (fun _=>False) _ _) (fun _ q=>q.elim)
  have co:Hid (Keep (fun b=>b=R) w I):=by
    show Keep _ w I
    rw [<- ah]
    exact ((Keep.alloc _ w _).trans HR.out.2).trans (Keep.alloc _ _ _)
  have ak:Hid (R<I.heap.size/\R≠O.heap.size):=⟨by omega,by omega⟩
  have ds:w.heap.size<O.heap.size:=by have:=HR.out.2.size;simp at this;omega
  have cy:Hid (zTwo w.heap.size I):=by
    show zTwo _ I
    rw [<- ah]
    exact ((ucR w).keep HR.out.2 (fun e=>by omega)).keep (Keep.alloc (fun _=>False) _ _) (fun e=>e)
  clear ah
  go_loopw [6] (fun iv wr=>dgI t R O.heap.size I n m S iv wr) (fun iv _=>n-(intOf iv).toNat)
  case atStart=>exact ⟨0,_,[],_,Nat.zero_le _,rfl,cn.out,rfl,cu.out,Keep.refl _ _⟩
  case round =>
    obtain ⟨k,G,E,rv,hk,rfl,hg,bm,ae,ai⟩:=hrel
    have HG:Hid (zGVar O.heap.size I G wr rv (.slice none 0 0) E []):=hg
    have a1:Hid (E.map (·.d)=(ve t n m S k).1):=bm
    have ac:Hid (RdA t R wr (ve t n m S k).2):=ae
    have bf:Hid (Keep (fun b=>b=R\/b=O.heap.size) I wr):=ai
    have dn:=ae.lt
    have bz:Hid (E.length=k):=by
      show E.length=k
      rw [<- List.length_map (f:=(·.d)),bm];exact qf t n m S k
    clear hg bm ae ai
    by_cases a8:k<n
    · have hlt':(k:Int)<(n:Int):=by omega
      obtain ⟨L,V⟩:=nm (ve t n m S k)
      obtain ⟨b,hb⟩:=nm (yw t k n m 5 false L.2)
      have cw:Hid (ve t n m S (k+1)=(L.1 ++ [⟨[((115+k % 8:Nat):Int)],true,ueh k m (t.v b.2) (uc9 k (t.v b.2) (ucF k n (t.v b.2) b.1))⟩],t.n b.2)):=by
        show ve t n m S (k+1)=_
        rw [ve,V,hb]
      have al:Hid (E.map (·.d)=L.1):=V ▸ a1.out
      go_wp2_with fail
      refine upA k n m 5 5 rfl false ⟨by omega,by omega,by omega,by omega⟩ (dr0 (V ▸ ac.out)) fun a0 c0 w3 d u h=>?_
      rw [hb] at d h ⊢
      go_wp2_with fail
      refine qM d fun w4 d u=>?_
      replace h:=u h
      have vc:=t.v_le b.2
      clear u hb V a1
      generalize t.v b.2=c at *
      generalize t.n b.2=i2 at *
      generalize b.1=D0 at *
      obtain ⟨q1,r⟩:=nm (decide (k=0/\c % 3=1/\1<n))
      have ax:=ua r
      clear r
      go_upto_region 9 with fail
      go_cut [42] from 20 to 83 (fun v wc=>v = .bool q1/\w4=wc)
      case first =>
        rcases Nat.eq_zero_or_pos k with rfl | q0
        · by_cases q1:(c:Int) % 3=1 <;> by_cases q2:(1:Int)<(n:Int)
          all_goals
            go_wp2_with fail
            go_meet
            refine ⟨congrArg _ ?_,rfl⟩
            rw [<- ax.out]
            first | (simp;omega) | (rw [Bool.eq_iff_iff];simp;omega)
        · have q0':¬ (k:Int)=0:=by omega
          have q0'':((k:Int) == 0)=false:=by simp;omega
          go_wp2_with fail
          go_meet
          exact ⟨bvF ax.out (by omega),rfl⟩
      obtain ⟨rfl,T⟩:=hcut
      subst T
      obtain ⟨D1,W⟩:=nm (ucF k n c D0)
      have am:=ua W
      clear W
      go_upto_if 42 with fail
      go_cut [7] from 20 to 83 (fun v wc=>∃ a c',v = .slice a D1.length c'/\Hv wr wc a c' D1 202/\Dr t R i2 wr wc)
      case first =>
        cases q1 with
        | true =>
          have q:=of_decide_eq_true ax.out
          rw [ucF,if_pos q] at am
          obtain rfl:=am.out
          clear q
          go_wp2_with fail
          refine jI 2 1 d fun a c X d u P=>?_
          go_wp2_with fail
          refine ubP 4 d (u h) P (by omega) fun a c U d u h=>?_
          go_wp2_with fail
          go_meet
          exact ⟨_,_,rfl,h.m (by omega),d⟩
        | false =>
          have q:=of_decide_eq_false ax.out
          rw [ucF,if_neg q] at am
          obtain rfl:=am.out
          clear q
          go_wp2_with fail
          go_meet
          exact ⟨_,_,rfl,h.m (by omega),d⟩
      obtain ⟨dh,dj,rfl,h,d⟩:=hcut
      obtain ⟨de,T⟩:∃ x,x=wc:=⟨_,rfl⟩
      subst T
      obtain ⟨q2,r⟩:=nm (decide (k=0/\c % 4=1))
      have ay:=ua r
      clear r
      go_upto_region 11 with fail
      go_cut [52] from 20 to 83 (fun v wc=>v = .bool q2/\de=wc)
      case first =>
        rcases Nat.eq_zero_or_pos k with rfl | q0
        · by_cases q1:(c:Int) % 4=1
          all_goals
            go_wp2_with fail
            go_meet
            refine ⟨congrArg _ ?_,rfl⟩
            rw [<- ay.out]
            first | (simp;omega) | (rw [Bool.eq_iff_iff];simp;omega)
        · have q0':¬ (k:Int)=0:=by omega
          have q0'':((k:Int) == 0)=false:=by simp;omega
          go_wp2_with fail
          go_meet
          exact ⟨bvF ay.out (by omega),rfl⟩
      obtain ⟨rfl,T⟩:=hcut
      subst T
      obtain ⟨D2,W⟩:=nm (uc9 k c D1)
      have an:=ua W
      clear W
      go_upto_if 52 with fail
      go_cut [7] from 20 to 83 (fun v wc=>∃ a c',v = .slice a D2.length c'/\Hv wr wc a c' D2 205/\Dr t R i2 wr wc)
      case first =>
        cases q2 with
        | true =>
          have q:=of_decide_eq_true ay.out
          rw [uc9,if_pos q] at an
          obtain rfl:=an.out
          clear q
          go_wp2_with fail
          refine ulP 0 255 d fun a c X d u P=>?_
          replace h:=u h
          go_wp2_with fail
          refine dUn 7 d P (by omega) fun a c X d u P=>?_
          go_wp2_with fail
          refine ubP 4 d (u h) P (by omega) fun a c U d u h=>?_
          go_wp2_with fail
          go_meet
          exact ⟨_,_,rfl,h.m (by omega),d⟩
        | false =>
          have q:=of_decide_eq_false ay.out
          rw [uc9,if_neg q] at an
          obtain rfl:=an.out
          clear q
          go_wp2_with fail
          go_meet
          exact ⟨_,_,rfl,h.m (by omega),d⟩
      obtain ⟨di,dk,rfl,h,d⟩:=hcut
      obtain ⟨dg,T⟩:∃ x,x=wc:=⟨_,rfl⟩
      subst T
      obtain ⟨q3,r⟩:=nm (decide (k=0/\c % 5=1/\0<m))
      have az:=ua r
      clear r
      go_upto_region 13 with fail
      go_cut [68] from 20 to 83 (fun v wc=>v = .bool q3/\dg=wc)
      case first =>
        rcases Nat.eq_zero_or_pos k with rfl | q0
        · by_cases q1:(c:Int) % 5=1 <;> by_cases q2:(0:Int)<(m:Int)
          all_goals
            go_wp2_with fail
            go_meet
            refine ⟨congrArg _ ?_,rfl⟩
            rw [<- az.out]
            first | (simp;omega) | (rw [Bool.eq_iff_iff];simp;omega)
        · have q0':¬ (k:Int)=0:=by omega
          have q0'':((k:Int) == 0)=false:=by simp;omega
          go_wp2_with fail
          go_meet
          exact ⟨bvF az.out (by omega),rfl⟩
      obtain ⟨rfl,T⟩:=hcut
      subst T
      obtain ⟨D3,W⟩:=nm (ueh k m c D2)
      have ao:=ua W
      clear W
      go_upto_if 68 with fail
      go_cut [7] from 20 to 83 (fun v wc=>∃ a c',v = .slice a D3.length c'/\Hv wr wc a c' D3 209/\Dr t R i2 wr wc)
      case first =>
        cases q3 with
        | true =>
          have q:=of_decide_eq_true az.out
          rw [ueh,if_pos q] at ao
          obtain rfl:=ao.out
          clear q
          go_wp2_with fail
          refine urv 97 d fun X d u hI=>?_
          replace h:=u h
          go_wp2_with fail
          refine ubQ (s:=[97,97]) d hI (by simp) fun a c X d u P=>?_
          replace h:=u h
          go_wp2_with fail
          refine jI 3 0 d fun a c X d u h3=>?_
          replace h:=u h
          go_wp2_with fail
          refine ubP 5 d (u P) h3 (by omega) fun a c X d u P=>?_
          go_wp2_with fail
          refine ubP 4 d P (u h) (by omega) fun a c U d u h=>?_
          go_wp2_with fail
          go_meet
          exact ⟨_,_,rfl,h.m (by omega),d⟩
        | false =>
          have q:=of_decide_eq_false az.out
          rw [ueh,if_neg q] at ao
          obtain rfl:=ao.out
          clear q
          go_wp2_with fail
          go_meet
          exact ⟨_,_,rfl,h.m (by omega),d⟩
      obtain ⟨a2,a3,rfl,h,d⟩:=hcut
      obtain ⟨a9,T⟩:∃ x,x=wc:=⟨_,rfl⟩
      subst T
      have z4:=HG.out.later d.1.2 (fun x e=>by subst e;exact ak.out) 3
      have d0:=z4.c0
      have d1:=z4.c1
      have e0:=z4.f0
      have e1:=z4.f1
      clear z4
      go_wp2_with fail
      go_region_law
        (first
          | (refine ub8 un7 rfl (.tmp 77) 3 rfl (y1:=.int .i64 (k:Int)) (by simp [Act.eval,Act.put]) ((udg k (by omega) a9.drew).mono ?_)
             rintro e W5 ⟨v,rfl,l,A,rfl,ch,cf⟩
             have bu:Hid (Keep (fun _=>False) a9 W5):=(Keep.drew _ _).trans cf
             have z0:=(HG.out.later (d.1.2.trans (bu.out.mono (fun _ q=>q.elim))) (fun x e=>by subst e;exact ak.out) 3).c0
             have zl:=ub z0
             have aj:Hid (Ints (New a9 W5) .u8 W5 l 1 (lf [((115+k % 8:Nat):Int)])):=ch
             clear ch cf
             refine ⟨_,rfl,?_⟩)
          | (have ka:=bu.out.trans (Keep.alloc _ _ (.cells #[.slice l 1 A,.slice a2 D3.length a3] 76))
             obtain ⟨G2,ab,au,ap⟩:=ujl (z:=[((115+k % 8:Nat):Int)]) (N:=New a9 W5) (4+2*E.length) ak.out HG.out (d.1.2.trans (ka.mono (fun _ q=>q.elim))) (aj.out.later (uf W5 _)) (h.bd.later ka) (fun x q=>⟨by have:=d.1.2.size;have:=q.1;omega,by have:=q.2;simp;omega⟩) (fun x q=>⟨q.1,by have:=ka.size;have:=q.2;omega⟩) (fun x q q'=>by have:=q.1;have:=q'.2;omega)
             refine ubi rfl (.tmp 76) (.tmp 81) 25 25 rfl (v:=rv) (y:=.slice (some ⟨W5.heap.size,0,none⟩) 1 1) (by simp [Act.eval,Act.put]) (by simp [Act.eval,Act.put]) ulp (n:=E.length) (cs:=E.flatMap xw) (news:=xw ⟨⟨[((115+k % 8:Nat):Int)],true,D3⟩,l,A,a2,a3⟩) ab.gr.rules (uko (x:=⟨⟨[((115+k % 8:Nat):Int)],true,D3⟩,l,A,a2,a3⟩) (World.alloc_heap_new W5 _)) (by have:=bz.out;omega) ?_
             intro v6 W6 ad Y bn
             obtain ⟨a6,c6,rfl⟩:=ul ad
             obtain ⟨z1,_,z2,_⟩:=uai ab (by omega) Y
             have HE:=ua (ulK (x:=⟨⟨[((115+k % 8:Nat):Int)],true,D3⟩,l,A,a2,a3⟩) ab au ap ad Y)
             have HF:=ua (ujm (o:=0) (v:=.slice a6 (E.length+1) c6) cc ce ab (by omega) bf.out (d.1.2.trans (ka.mono (fun _ q=>q.elim))) Y (d.1.1.keep ka (fun _ q=>q.elim)))
             clear ad Y bn ab au ap ka))
      all_goals go_goals
      all_goals go_wp2
      all_goals go_roundw
      all_goals first
        | exact ulM a8 al.out cw.out (by rw [am.out,an.out,ao.out]) HE.out HF.out
        | (simp [intOf];omega)
    · obtain rfl:k=n:=by omega
      obtain ⟨L,V⟩:∃ p,ve t k m S k=p:=⟨_,rfl⟩
      have al:Hid (E.map (·.d)=L.1):=V ▸ a1.out
      have cr:Hid (RdA t R wr L.2):=V ▸ ac.out
      have bb:Hid (((L.1,vL L.1 (vg t k L.2 m).1 m),(vg t k L.2 m).2)=g):=V ▸ bt.out
      have cv:Hid (∀ x∈E,x.d.bd.length<=1048576):=fun x W=>Nat.le_trans (uaT t k m S k x.d (by rw [V,<- al.out];exact List.mem_map.2 ⟨x,W,rfl⟩)).1 (by omega)
      clear V a1 ac bt a8
      obtain ⟨wa,dc⟩:∃ x,x=wr:=⟨_,rfl⟩
      subst dc
      have dw:=bf.out.size
      go_wp2_with fail
      simp only [hm']
      go_loopw [9] (fun iv wr=>dlI t R O.heap.size I k m L.2 rv E iv wr) (fun iv _=>m-(intOf iv).toNat)
      case atStart=>exact ⟨0,G,[],_,Nat.zero_le _,rfl,HG.out,rfl,cr.out,bf.out⟩
      case round =>
        obtain ⟨j,G1,J,lv,hj,rfl,hg,bk,ae,ai⟩:=hrel
        have aa:Hid (zGVar O.heap.size I G1 wr rv lv E J):=hg
        have b5:Hid (J.map (·.d)=(vg t k L.2 j).1):=bk
        have ac:Hid (RdA t R wr (vg t k L.2 j).2):=ae
        have be:Hid (Keep (fun b=>b=R\/b=O.heap.size) I wr):=ai
        have c4:=ae.lt
        have dx:=ai.size
        have b0:Hid (J.length=j):=by
          show J.length=j
          rw [<- List.length_map (f:=(·.d)),bk];exact qg t k L.2 j
        clear hg bk ae ai
        by_cases a8:j<m
        · have hlt':(j:Int)<(m:Int):=by omega
          have c5:j<3:=by omega
          obtain ⟨q,r⟩:∃ p,qL t k (vg t k L.2 j).2=p:=⟨_,rfl⟩
          have HQ:Hid (qL t k (vg t k L.2 j).2=q):=r
          obtain ⟨i1,bj⟩:∃ p,(vg t k L.2 j).2=p:=⟨_,rfl⟩
          rw [bj] at r
          have b8:Hid (RdA t R wr i1):=bj ▸ ac.out
          have c7:=ulO wr j c5 (t:=9)
          have dy:=t.v_le i1
          clear bj ac
          go_upto_region 20 with fail
          generalize b9:wr.alloc (.cells #[.string ⟨#[101,49]⟩,.string ⟨#[101,114,114]⟩,.string ⟨#[109,105,100,95,50]⟩] 9)=A1 at *
          have bq:Hid (Keep (fun _=>False) wr A1):=b9 ▸ Keep.alloc _ _ _
          clear b9
          go_wp2_with (refine ujs rfl _ rfl rfl ?_;intro l A F h1 P;rw [ueC] at h1;rw [ueC];have HN:Hid (Ints (New A1 F) .u8 F l (uaF j).length (lf (uaF j))):=h1;have br:Hid (Keep (fun _=>False) A1 F):=P;clear h1 P)
          generalize hz:uaF j=z at *
          have c3:Hid (uaF j=z):=hz
          clear hz c7
          generalize a4:F.alloc (.cells #[.slice l z.length A,.bool false,.slice none 0 0] 73)=A3 at *
          have bx:Hid (Lb F.heap.size A3 (.slice l z.length A) false (.slice none 0 0)):=a4 ▸ upZ F _
          have bs:Hid (Keep (fun _=>False) F A3):=a4 ▸ Keep.alloc _ _ _
          have c9:A3.heap.size=F.heap.size+1:=by rw [<- a4];simp
          clear a4
          have c8:=bq.out.size
          have dt:=br.out.size
          have bh:RdOn t R i1 wr A3:=(((RdOn.refl b8.out).quiet bq.out).quiet br.out).quiet bs.out
          refine (uu t R i1 A3 bh.1).mono ?_
          rintro e A4 ⟨rfl,Z⟩
          have b7:Hid (RdOn t R (t.n i1) wr A4):=bh.trans Z
          have aw:Hid (Lb F.heap.size A4 (.slice l z.length A) false (.slice none 0 0)):=bx.out.keep Z.2 (fun e=>by omega)
          have b6:Hid (Ints (New A1 F) .u8 A4 l z.length (lf z)):=(HN.out.kept bs.out (fun _ _ x=>x)).kept Z.2 (fun b x e=>by have:=x.1;omega)
          have du:=Z.2.size
          clear Z bh bx b8
          unfold qL at r
          generalize t.v i1=kc at *
          generalize t.n i1=i2 at *
          obtain ⟨c,hc⟩:∃ c:Nat,kc % 8=c:=⟨_,rfl⟩
          have hc':(kc:Int) % 8=(c:Int):=by omega
          have dp:c<8:=by omega
          rw [hc] at r
          clear hc
          go_upto_if 100 with fail
          go_cut [12] from 84 to 132 (fun v wc=>v = .int .i64 (c:Int)/\∃ ba bc,Lb F.heap.size wc (.slice l z.length A) q.1.1 (.slice ba q.1.2.length bc)/\BodP (New A3 wc) wc (.slice ba q.1.2.length bc) q.1.2/\RdOn t R q.2 wr wc/\Ints (New A1 F) .u8 wc l z.length (lf z))
          case first =>
            by_cases b1:(c:Int)<6
            · rw [if_pos (by omega)] at r
              have l1:=aw.out.c1
              have dd:=aw.out.f1
              have bw:=ua (aw.out.set1 true)
              have af:=ua (b7.out.set (b:=F.heap.size) (o:=1) (v:=.bool true) (by omega) (by omega))
              have aj:=ua (b6.out.kept (Keep.setCell (C:=fun b=>b=F.heap.size) A4 ⟨F.heap.size,1,none⟩ (.bool true) rfl) (fun b x e=>by have:=x.2;omega))
              have da:=(uh A4 ⟨F.heap.size,1,none⟩ (.bool true)).symm
              go_upto_if 103 with fail
              generalize A4.setCell ⟨F.heap.size,1,none⟩ (.bool true)=X at *
              clear l1 dd
              have FL:=ua fun (i:Nat) (w:World) (d:Dr t R i X w)=>bw.out.keep d.1.2 (fun e=>by omega)
              have FI:=ua fun (a:Option Addr) (c:Nat) (D:List OpD) (i n:Nat) (w:World) (d:Dr t R i X w) (h:Hv X w a c D n)=>up0 (af.out.trans d.1) bw.out aj.out d.1.2 h.bd rfl c9 (by omega) (by omega) c4 c8
              have d:=dr0 af.out.1
              by_cases b2:(c:Int)<2
              · rw [if_pos (by omega)] at r
                obtain ⟨s,hs⟩:=nm (yp t i2)
                have HS:=ua hs
                have ugf:s.1.length<=4:=hs ▸ vJ t i2
                rw [hs] at r
                clear hs
                subst r
                go_wp2_with fail
                refine dDs d fun a c U d u h=>?_
                rw [HS.out] at d h ⊢
                go_wp2_with fail
                refine ubQ d h ugf fun a c U d u h=>?_
                go_wp2_with fail
                refine dUn 7 d h (by omega) fun a c U d u h=>?_
                go_wp2_with fail
                refine ulP 0 255 d fun a c U d u P=>?_
                go_wp2_with fail
                refine ubP 4 d (u h) P (by omega) fun a c U d u h=>?_
                go_wp2_with fail
                refine dUn 6 d h (by omega) fun a c U d u h=>?_
                have l2:=(FL.out _ _ d).c2
                have bo:=(FL.out _ _ d).f2
                go_wp2_with fail
                go_meet
                exact ⟨rfl,_,_,FI.out _ _ _ _ _ _ d h⟩
              rw [if_neg (by omega)] at r
              by_cases b3:(c:Int)=2
              · rw [if_pos (by omega)] at r
                subst r
                go_wp2_with fail
                refine jI 0 0 d fun a c U d u h=>?_
                have l2:=(FL.out _ _ d).c2
                have bo:=(FL.out _ _ d).f2
                go_wp2_with fail
                go_meet
                exact ⟨by first | rfl | rw [b3],_,_,FI.out _ _ _ _ _ _ d h⟩
              rw [if_neg (by omega)] at r
              by_cases b4:(c:Int)=3
              · rw [if_pos (by omega)] at r
                subst r
                go_wp2_with fail
                refine ulP 0 255 d fun a c U d u h=>?_
                have l2:=(FL.out _ _ d).c2
                have bo:=(FL.out _ _ d).f2
                go_wp2_with fail
                go_meet
                exact ⟨by first | rfl | rw [b4],_,_,FI.out _ _ _ _ _ _ d h⟩
              rw [if_neg (by omega)] at r
              subst r
              go_wp2_with fail
              refine upA k k 0 3 3 rfl false ⟨by omega,by omega,by omega,by omega⟩ d fun a c U d u h=>?_
              have l2:=(FL.out _ _ d).c2
              have bo:=(FL.out _ _ d).f2
              go_wp2_with fail
              go_meet
              exact ⟨rfl,_,_,FI.out _ _ _ _ _ _ d h⟩
            · rw [if_neg (by omega)] at r
              subst r
              go_wp2_with fail
              go_meet
              exact ⟨rfl,none,0,aw.out,ugn _ _,b7.out,b6.out⟩
          case rest =>
            obtain ⟨rfl,ba,bc,ag,ca,a5,cb⟩:=hcut
            obtain ⟨H,T⟩:∃ x,x=wc:=⟨_,rfl⟩
            subst T
            have cm:Hid (BodP (New A3 H) H (.slice ba q.1.2.length bc) q.1.2):=ca
            have af:Hid (RdOn t R q.2 wr H):=a5
            have aj:Hid (Ints (New A1 F) .u8 H l z.length (lf z)):=cb
            have gv:=aa.out.later a5.2 (fun x e=>by subst e;exact ak.out) 3
            have g0:=gv.c0
            have g1:=gv.c1
            have dl:=gv.f0
            have dm:=gv.f1
            have l0:=ag.c0
            have l1:=ag.c1
            have l2:=ag.c2
            have da:=a5.2.size
            have dv:F.heap.size<H.heap.size:=ub ag.c0
            have cx:Hid (∀ b,New A1 F b->b<H.heap.size):=fun b x=>by have h1:=x.2;have P:F.heap.size<H.heap.size:=ub ag.c0;omega
            clear ag ca a5 cb gv
            have HM:Hid (∃ G',zGVar O.heap.size I G' (H.alloc (.cells #[.slice l z.length A,.bool q.1.1,.slice ba q.1.2.length bc] 73)) rv lv E J/\Ints (zTg G' (H.alloc (.cells #[.slice l z.length A,.bool q.1.1,.slice ba q.1.2.length bc] 73)) 2) .u8 (H.alloc (.cells #[.slice l z.length A,.bool q.1.1,.slice ba q.1.2.length bc] 73)) l z.length (lf z)/\BodP (zTg G' (H.alloc (.cells #[.slice l z.length A,.bool q.1.1,.slice ba q.1.2.length bc] 73)) (5+2*J.length)) (H.alloc (.cells #[.slice l z.length A,.bool q.1.1,.slice ba q.1.2.length bc] 73)) (.slice ba q.1.2.length bc) q.1.2):=ujl (N:=New A1 F) (B:=New A3 H) (5+2*J.length) ak.out aa.out (af.out.2.trans (Keep.alloc _ _ _)) (aj.out.later (uf H _)) ((cm.out.later (C:=fun _=>False) (Keep.alloc _ _ _) (fun x e=>e.elim))) (fun x y=>⟨by have:=y.1;omega,by have:=cx.out x y;simp;omega⟩) (fun x y=>⟨by have:=y.1;omega,by have:=y.2;simp;omega⟩) (fun x y y'=>by have:=y.2;have:=y'.1;omega)
            obtain ⟨G2,ab,au,ap⟩:=HM.out
            have av:Hid (zGVar O.heap.size I G2 (H.alloc (.cells #[.slice l z.length A,.bool q.1.1,.slice ba q.1.2.length bc] 73)) rv lv E J):=ab
            have cq:Hid (Ints (zTg G2 (H.alloc (.cells #[.slice l z.length A,.bool q.1.1,.slice ba q.1.2.length bc] 73)) 2) .u8 (H.alloc (.cells #[.slice l z.length A,.bool q.1.1,.slice ba q.1.2.length bc] 73)) l z.length (lf z)):=au
            have ck:Hid (BodP (zTg G2 (H.alloc (.cells #[.slice l z.length A,.bool q.1.1,.slice ba q.1.2.length bc] 73)) (5+2*J.length)) (H.alloc (.cells #[.slice l z.length A,.bool q.1.1,.slice ba q.1.2.length bc] 73)) (.slice ba q.1.2.length bc) q.1.2):=ap
            clear ab au ap HM
            go_wp2_with (at_builtin;refine uaB rfl _ _ 26 26 rfl rfl rfl uoa (v:=lv) (Q:=zTg G2 (H.alloc (.cells #[.slice l z.length A,.bool q.1.1,.slice ba q.1.2.length bc] 73)) 1) (n:=J.length) (cs:=J.flatMap yO) (news:=yO ⟨⟨z,q.1.1,q.1.2⟩,l,A,ba,bc⟩) av.out.gr.labs (uhW (x:=⟨⟨z,q.1.1,q.1.2⟩,l,A,ba,bc⟩) (World.alloc_heap_new H _)) (by have:=b0.out;omega) ?_;intro v6 W6 ad Y bn;obtain ⟨a6,c6,rfl⟩:=ul ad;obtain ⟨_,z1,_,z2⟩:=uai av.out (by omega) Y;have HE:Hid (∃ G',zGVar O.heap.size I G' (W6.setCell ⟨O.heap.size,1,none⟩ (.slice a6 (J.length+1) c6)) rv (.slice a6 (J.length+1) c6) E (J ++ [⟨⟨z,q.1.1,q.1.2⟩,l,A,ba,bc⟩])):=ulL (x:=⟨⟨z,q.1.1,q.1.2⟩,l,A,ba,bc⟩) av.out cq.out ck.out ad Y;have HF:Hid (RdA t R (W6.setCell ⟨O.heap.size,1,none⟩ (.slice a6 (J.length+1) c6)) q.2/\Keep (fun x=>x=R\/x=O.heap.size) I (W6.setCell ⟨O.heap.size,1,none⟩ (.slice a6 (J.length+1) c6))):=ujm cc ce av.out (by omega) be.out (af.out.2.trans (Keep.alloc _ _ _)) Y (af.out.1.keep (Keep.alloc (fun _=>False) _ _) (fun _ x=>x.elim));clear ad Y bn)
            go_roundw
            all_goals first
              | exact ulN a8 b5.out HQ.out (by rw [c3.out];exact HE.out) HF.out
              | (simp [intOf];omega)
        · obtain rfl:j=m:=by omega
          obtain ⟨ra,rc,rfl⟩:=ul aa.out.gr.rules
          obtain ⟨la,lc,rfl⟩:=ul aa.out.gr.labs
          have g0:=aa.out.c0
          have g1:=aa.out.c1
          have cj:zTwo w.heap.size wr:=cy.out.keep be.out (fun x=>by rcases x with x | x <;> omega)
          have cz:Hid (zTwo w.heap.size wr):=cj
          clear cj
          go_wp2_with fail
          refine (uib I wr G1 ra la rc lc E J aa.out.gr aa.out.le (by have:=bz.out;omega) (by have:=b0.out;omega) cv.out).mono ?_
          rintro e w9 ⟨G9,bp,rfl,bi,cg,a7⟩
          obtain ⟨t0,t1,f0,f1⟩:=cz.out.keep a7 (fun x=>by omega)
          have cp:Hid (bp.map (·.d)=vL L.1 (vg t k L.2 j).1 j):=by
            show _=_
            rw [cg,al.out,b5.out,qg]
          have bg:G9 w.heap.size=3:=bi.tag (by omega)
          have HO:Hid (zGrP w G9 ((w9.setCell ⟨w.heap.size,0,none⟩ (.slice ra E.length rc)).setCell ⟨w.heap.size,1,none⟩ (.slice la J.length lc)) (.slice ra E.length rc) (.slice la J.length lc) E bp):=((bi.set bg).set bg).base (by omega)
          have ct:Hid (RdOn t R (vg t k L.2 j).2 w ((w9.setCell ⟨w.heap.size,0,none⟩ (.slice ra E.length rc)).setCell ⟨w.heap.size,1,none⟩ (.slice la J.length lc))):=by
            refine RdOn.set (RdOn.set ⟨ac.out.keep a7 (fun b x=>by omega),ubm (ubm co.out be.out (fun b x=>?_)) a7 (fun b x=>.inr (by omega))⟩ (Nat.le_refl _) cd) (Nat.le_refl _) cd
            rcases x with x | x
            · exact .inl x
            · exact .inr (by omega)
          clear bi cg a7 bg
          go_wp2
          refine bodyPost_ret (v:=.agg #[.slice ra E.length rc,.slice la J.length lc]) ?_ rfl ?_
          · simp [results,Tryz.f49,go_sem, *]
          · refine ⟨_,_,G9,E,bp,rfl,HO.out,?_,?_,?_⟩
            · rw [<- bb.out];exact al.out
            · rw [<- bb.out];exact cp.out
            · rw [<- bb.out];exact ct.out
namespace M
structure Sound(g:Gr):Prop where
 r1:0<g.nr
 r2:g.nr<=100
 l2:g.nb<=100
 rn:∀i,i<g.nr->NameOK (g.rule i).nl (g.rule i).name
 ln:∀i,i<g.nb->NameOK (g.lab i).nl (g.lab i).name
 rb:∀i,i<g.nr->BodyOK g.nr g.nb (g.rule i).bl (g.rule i).body
 lb:∀i,i<g.nb->(g.lab i).has=true->BodyOK g.nr g.nb (g.lab i).bl (g.lab i).body
 lz:∀i,i<g.nb->(g.lab i).has=false->(g.lab i).bl=0
 ol:ops g<=2000
theorem Valid.sound{g}(h:Valid g):Sound g:=⟨h.r1,h.r2,h.l2,h.rn,h.ln,h.rb,h.lb,h.lz,h.ol⟩
end M
section
open M (OpD ue Gr)
variable {α:Type} [Inhabited α] (f:OpD->α->α->α) (B:Nat->OpD)
theorem xJ(q lo:Nat)(x:α)(d:M.Fed B (q+1))(k:M.ar (B q).kind=2)(e:M.stk f B (q+1)=(lo,x)::M.stk f B lo) :
  ∃s y z,lo<s/\s<q/\M.stk f B q=(s,y)::M.stk f B s/\M.stk f B s=(lo,z)::M.stk f B lo/\x=f (B q) z y/\M.dep B s+1=M.dep B q/\∀j,s<j->j<=q->M.dep B q<=M.dep B j:=by
 have c:M.Fed B q:=d.less (by omega);have a:=M.stk_len f B q c;have n:=d q (by omega);rw[M.stk]at e;match hs:M.stk f B q with
 |[]=>rw[hs]at a;simp at a;omega
 |[(s,y)]=>rw[hs]at a;simp at a;omega
 |(s,y)::(s1,z)::r =>
  rw[hs]at e a;simp only[M.stp,k,if_true,List.cons.injEq,Prod.mk.injEq]at e;obtain⟨⟨rfl,rfl⟩,m⟩:=e;obtain⟨g,b,h⟩:=M.stk_cons f B q c s y _ hs;obtain⟨b1,i,l⟩:=M.stk_cons f B s (c.less (by omega)) s1 z r b.symm;have l2:=M.stk_len f B s (c.less (by omega));rw[<-b]at l2;simp at a l2;exact⟨s,y,z,b1,g,by rw[<-b],by rw[<-b,i],rfl,by omega,h⟩
theorem kH(q lo:Nat)(x:α)(b:M.Fed B (q+1))(h:M.ar (B q).kind=1)(e:M.stk f B (q+1)=(lo,x)::M.stk f B lo) :
  ∃z,lo<q/\M.stk f B q=(lo,z)::M.stk f B lo/\x=f (B q) z default:=by
 have c:M.Fed B q:=b.less (by omega);have a:=M.stk_len f B q c;have k:=b q (by omega);rw[M.stk]at e;match hs:M.stk f B q with
 |[]=>rw[hs]at a;simp at a;omega
 |(s,z)::r =>
  rw[hs]at e a;simp[M.stp,h]at e;obtain⟨⟨rfl,rfl⟩,g⟩:=e;obtain⟨d,i,j⟩:=M.stk_cons f B q c s z _ hs;exact⟨z,d,by rw[<-g],rfl⟩
theorem xT(q lo:Nat)(x:α)(a:M.ar (B q).kind=0)(e:M.stk f B (q+1)=(lo,x)::M.stk f B lo):x=f (B q) default default:=by
 rw[M.stk]at e;simp[M.stp,a]at e;exact e.1.2.symm
end
end Go.Proofs.YtpghlcdkfldlpaaGreat
