import Derived.Test.YtimfigongapdnaaGreatT11
set_option linter.unusedVariables false
set_option linter.unusedSimpArgs false
set_option maxHeartbeats 40000000
set_option maxRecDepth 100000
namespace Go.Proofs.YtimfigongapdnaaGreat
open Go.RowKit
open M (OpD ug Gr)
def dlI (t : Tp) (R c : Nat) (a : World) (n m e : Nat) (j : Value) (i : List zNC) (g : Value) (wr : World) : Prop :=
  ∃ (k:Nat) (G:Nat->Nat) (f:List zNC) (h:Value),k<=m/\g = .int .i64 (k:Int)/\zGVar c a G wr j h i f/\f.map (·.d)=(vb t n e k).1/\RdA t R wr (vb t n e k).2/\Keep (fun b=>b=R\/b=c) a wr
theorem umj {t R c b W n m e k j i h}{q : (Bool × List OpD) × Nat}{s ba u bc v}(r : k<m)(p : h.map (·.d)=(vb t n e k).1)(g : qz t n (vb t n e k).2=q)(l : ∃ a,zGVar c b a W j v i (h ++ [⟨⟨uaD k,q.1.1,q.1.2⟩,s,u,ba,bc⟩]))(f : RdA t R W q.2/\Keep (fun x=>x=R\/x=c) b W) : dlI t R c b n m e j i (.int .i64 ((k+1 : Nat) : Int)) W:=by
  obtain ⟨a,o⟩:=l
  refine ⟨k+1,a,_,v,r,rfl,o,?_,?_,f.2⟩
  · rw [vb,List.map_append,p,g];rfl
  · rw [vb,g];exact f.1
def uic (k : Nat) : ByteArray:=if k=0 then ⟨#[101,49]⟩ else if k=1 then ⟨#[101,114,114]⟩ else ⟨#[109,105,100,95,50]⟩
theorem ueI k : bytesOf (uic k)=uaD k:=by
  unfold uic uaD
  split
  · rfl
  · split
    · rfl
    · rfl
theorem umk (w : World)(k : Nat)(b : k<3){t} : (w.alloc (.cells #[.string ⟨#[101,49]⟩,.string ⟨#[101,114,114]⟩,.string ⟨#[109,105,100,95,50]⟩] t)).cell? ⟨w.heap.size,k,none⟩=some (.string (uic k)):=by
  have a:=World.alloc_heap_new w (.cells #[.string ⟨#[101,49]⟩,.string ⟨#[101,114,114]⟩,.string ⟨#[109,105,100,95,50]⟩] t)
  simp only [World.cell?,a]
  match k,b with
  | 0,_=>rfl
  | 1,_=>rfl
  | 2,_=>rfl
theorem bvF {p : Prop} [Decidable p] {b : Bool} (e : decide p=b) (h : ¬ p) : Value.bool false = .bool b:=by rw [<- e,decide_eq_false h]
theorem ugL {n b}k m c(h : Lil n b) : Lil (n+2) (ucJ k m c b):=by
  unfold ucJ
  split
  · exact yo 4 h (xB 2 1)
  · exact h.mono (by omega)
theorem ugM {n b}k c(h : Lil n b) : Lil (n+3) (uc9 k c b):=by
  unfold uc9
  split
  · exact yo 4 h (qB 7 (jN (by simp)))
  · exact h.mono (by omega)
theorem ugN {n b}k m c(h : Lil n b) : Lil (n+4) (uel k m c b):=by
  unfold uel
  split
  · exact (yo 4 (yo 5 (jN (s:=vz 97) (by simp [vz])) (xB 3 0)) h).mono (by omega)
  · exact h.mono (by omega)
theorem uoW {b}k m c(h : 0<b.length) : 0<(ucJ k m c b).length:=by
  unfold ucJ
  split
  · simp [uI];omega
  · exact h
theorem uoX {b}k c(h : 0<b.length) : 0<(uc9 k c b).length:=by
  unfold uc9
  split
  · simp [uI];omega
  · exact h
theorem uaN t n m a : ∀ (k : Nat) (x : zNL),x∈(uZ t n m a k).1->Lil 300 x.bd
  | 0,x,h=>by cases h
  | k+1,x,h=>by
    rw [uZ] at h
    rcases List.mem_append.1 h with q | q
    · exact uaN t n m a k x q
    · obtain rfl:=List.mem_singleton.1 q
      exact (ugN _ _ _ (ugM _ _ (ugL _ _ _ ((xS t k n m 5 false _).mono (uia (by omega)))))).mono (by omega)
theorem uoY : vG 26 70 3 56:=⟨Tryz.underlying26,⟨_,ul7,rfl⟩,by omega⟩
theorem kM t R i w(h : RdA t R w i)(g : (List zNL × List zNL) × Nat)(aq : vy t i=g) :
    Calls Tryz.prog 49 #[.pointer (some ⟨R,0,none⟩)] w (DrG t R g w):=by
  have hv:=t.v_le i
  have db:=t.v_le (t.n i)
  have cd:=h.lt
  go_enter Tryz.func49,Tryz.ntmps49
  go_wp2_with fail
  refine (uw t R i _ (h.keep (Keep.alloc (fun _=>False) _ _) (fun _ q=>q.elim))).mono ?_
  rintro e w1 ⟨rfl,bl⟩
  go_wp2_with fail
  refine (uw t R (t.n i) _ bl.1).mono ?_
  rintro e O ⟨rfl,ci⟩
  have Z:=bl.trans ci
  have HR:Hid (RdOn t R (t.n (t.n i)) (w.alloc (.cells #[.slice none 0 0,.slice none 0 0] 28)) O):=Z
  have cc:=Z.1.lt
  clear bl ci Z h
  unfold vy at aq
  dsimp only at aq
  generalize t.v i=kn at *
  generalize t.v (t.n i)=km at *
  generalize t.n (t.n i)=S at *
  obtain ⟨n,hn⟩:∃ n:Nat,1+kn % 4=n:=⟨_,rfl⟩
  have hn':1+(kn:Int) % 4=(n:Int):=by omega
  have dr:n<=4:=by omega
  obtain ⟨m,hm⟩:∃ m:Nat,km % 4=m:=⟨_,rfl⟩
  have hm':(km:Int) % 4=(m:Int):=by omega
  have dq:m<=3:=by omega
  rw [hn,hm] at aq
  have bt:Hid ((((uZ t n m S n).1,vD (uZ t n m S n).1 (vb t n (uZ t n m S n).2 m).1 m),(vb t n (uZ t n m S n).2 m).2)=g):=aq
  clear hn hm hv db aq
  go_wp2_with fail
  generalize ah:O.alloc (.cells #[.slice none 0 0,.slice none 0 0] 28)=I at *
  have ce:O.heap.size<I.heap.size:=by rw [<- ah];simp
  have cn:Hid (zGVar O.heap.size I (fun _=>3) I (.slice none 0 0) (.slice none 0 0) [] []):=by
    show zGVar _ _ _ _ _ _ _ _
    rw [<- ah]
    exact ueG O
  have cu:Hid (RdA t R I S):=by
    show RdA t R I S
    rw [<- ah]
    exact HR.out.1.keep (Keep.alloc (fun _=>False) _ _) (fun _ q=>q.elim)
  have co:Hid (Keep (fun b=>b=R) w I):=by
    show Keep _ w I
    rw [<- ah]
    exact ((Keep.alloc _ w _).trans HR.out.2).trans (Keep.alloc _ _ _)
  have ak:Hid (R<I.heap.size/\R≠O.heap.size):=⟨by omega,by omega⟩
  have ds:w.heap.size<O.heap.size:=by have:=HR.out.2.size;simp at this;omega
  have cy:Hid (zTwo w.heap.size I):=by
    show zTwo _ I
    rw [<- ah]
    exact ((ucW w).keep HR.out.2 (fun e=>by omega)).keep (Keep.alloc (fun _=>False) _ _) (fun e=>e)
  clear ah
  go_loopw [6] (fun iv wr=>dgI t R O.heap.size I n m S iv wr) (fun iv _=>n-(intOf iv).toNat)
  case atStart=>exact ⟨0,_,[],_,Nat.zero_le _,rfl,cn.out,rfl,cu.out,Keep.refl _ _⟩
  case round =>
    obtain ⟨k,G,E,rv,hk,rfl,hg,bm,ae,ai⟩:=hrel
    have HG:Hid (zGVar O.heap.size I G wr rv (.slice none 0 0) E []):=hg
    have a1:Hid (E.map (·.d)=(uZ t n m S k).1):=bm
    have ac:Hid (RdA t R wr (uZ t n m S k).2):=ae
    have bf:Hid (Keep (fun b=>b=R\/b=O.heap.size) I wr):=ai
    have dn:=ae.lt
    have bz:Hid (E.length=k):=by
      show E.length=k
      rw [<- List.length_map (f:=(·.d)),bm];exact jI t n m S k
    clear hg bm ae ai
    by_cases a8:k<n
    · have hlt':(k:Int)<(n:Int):=by omega
      obtain ⟨L,V⟩:=nm (uZ t n m S k)
      obtain ⟨b,hb⟩:=nm (yh t k n m 5 false L.2)
      have cw:Hid (uZ t n m S (k+1)=(L.1 ++ [⟨[((115+k % 8:Nat):Int)],true,uel k m (t.v b.2) (uc9 k (t.v b.2) (ucJ k n (t.v b.2) b.1))⟩],t.n b.2)):=by
        show uZ t n m S (k+1)=_
        rw [uZ,V,hb]
      have al:Hid (E.map (·.d)=L.1):=V ▸ a1.out
      go_wp2_with fail
      refine uqB k n m 5 5 rfl false ⟨by omega,by omega,by omega,by omega⟩ (dr0 (V ▸ ac.out)) fun a0 c0 w3 d u h=>?_
      rw [hb] at d h ⊢
      go_wp2_with fail
      refine qA d fun w4 d u=>?_
      replace h:=u h
      have vc:=t.v_le b.2
      clear u hb V a1
      generalize t.v b.2=c at *
      generalize t.n b.2=i2 at *
      generalize b.1=D0 at *
      obtain ⟨q1,r⟩:=nm (decide (k=0/\c % 3=1/\1<n))
      have ax:=ua r
      clear r
      go_upto_region 9 with fail
      go_cut [42] from 20 to 83 (fun v wc=>v = .bool q1/\w4=wc)
      case first =>
        rcases Nat.eq_zero_or_pos k with rfl | q0
        · by_cases q1:(c:Int) % 3=1 <;> by_cases q2:(1:Int)<(n:Int)
          all_goals
            go_wp2_with fail
            go_meet
            refine ⟨congrArg _ ?_,rfl⟩
            rw [<- ax.out]
            first | (simp;omega) | (rw [Bool.eq_iff_iff];simp;omega)
        · have q0':¬ (k:Int)=0:=by omega
          have q0'':((k:Int) == 0)=false:=by simp;omega
          go_wp2_with fail
          go_meet
          exact ⟨bvF ax.out (by omega),rfl⟩
      obtain ⟨rfl,T⟩:=hcut
      subst T
      obtain ⟨D1,W⟩:=nm (ucJ k n c D0)
      have am:=ua W
      clear W
      go_upto_if 42 with fail
      go_cut [7] from 20 to 83 (fun v wc=>∃ a c',v = .slice a D1.length c'/\Hv wr wc a c' D1 202/\Dr t R i2 wr wc)
      case first =>
        cases q1 with
        | true =>
          have q:=of_decide_eq_true ax.out
          rw [ucJ,if_pos q] at am
          obtain rfl:=am.out
          clear q
          go_wp2_with fail
          refine jo 2 1 d fun a c X d u P=>?_
          go_wp2_with fail
          refine ubZ 4 d (u h) P (by omega) fun a c U d u h=>?_
          go_wp2_with fail
          go_meet
          exact ⟨_,_,rfl,h.m (by omega),d⟩
        | false =>
          have q:=of_decide_eq_false ax.out
          rw [ucJ,if_neg q] at am
          obtain rfl:=am.out
          clear q
          go_wp2_with fail
          go_meet
          exact ⟨_,_,rfl,h.m (by omega),d⟩
      obtain ⟨dh,dj,rfl,h,d⟩:=hcut
      obtain ⟨de,T⟩:∃ x,x=wc:=⟨_,rfl⟩
      subst T
      obtain ⟨q2,r⟩:=nm (decide (k=0/\c % 4=1))
      have ay:=ua r
      clear r
      go_upto_region 11 with fail
      go_cut [52] from 20 to 83 (fun v wc=>v = .bool q2/\de=wc)
      case first =>
        rcases Nat.eq_zero_or_pos k with rfl | q0
        · by_cases q1:(c:Int) % 4=1
          all_goals
            go_wp2_with fail
            go_meet
            refine ⟨congrArg _ ?_,rfl⟩
            rw [<- ay.out]
            first | (simp;omega) | (rw [Bool.eq_iff_iff];simp;omega)
        · have q0':¬ (k:Int)=0:=by omega
          have q0'':((k:Int) == 0)=false:=by simp;omega
          go_wp2_with fail
          go_meet
          exact ⟨bvF ay.out (by omega),rfl⟩
      obtain ⟨rfl,T⟩:=hcut
      subst T
      obtain ⟨D2,W⟩:=nm (uc9 k c D1)
      have an:=ua W
      clear W
      go_upto_if 52 with fail
      go_cut [7] from 20 to 83 (fun v wc=>∃ a c',v = .slice a D2.length c'/\Hv wr wc a c' D2 205/\Dr t R i2 wr wc)
      case first =>
        cases q2 with
        | true =>
          have q:=of_decide_eq_true ay.out
          rw [uc9,if_pos q] at an
          obtain rfl:=an.out
          clear q
          go_wp2_with fail
          refine uml 0 255 d fun a c X d u P=>?_
          replace h:=u h
          go_wp2_with fail
          refine dUn 7 d P (by omega) fun a c X d u P=>?_
          go_wp2_with fail
          refine ubZ 4 d (u h) P (by omega) fun a c U d u h=>?_
          go_wp2_with fail
          go_meet
          exact ⟨_,_,rfl,h.m (by omega),d⟩
        | false =>
          have q:=of_decide_eq_false ay.out
          rw [uc9,if_neg q] at an
          obtain rfl:=an.out
          clear q
          go_wp2_with fail
          go_meet
          exact ⟨_,_,rfl,h.m (by omega),d⟩
      obtain ⟨di,dk,rfl,h,d⟩:=hcut
      obtain ⟨dg,T⟩:∃ x,x=wc:=⟨_,rfl⟩
      subst T
      obtain ⟨q3,r⟩:=nm (decide (k=0/\c % 5=1/\0<m))
      have az:=ua r
      clear r
      go_upto_region 13 with fail
      go_cut [68] from 20 to 83 (fun v wc=>v = .bool q3/\dg=wc)
      case first =>
        rcases Nat.eq_zero_or_pos k with rfl | q0
        · by_cases q1:(c:Int) % 5=1 <;> by_cases q2:(0:Int)<(m:Int)
          all_goals
            go_wp2_with fail
            go_meet
            refine ⟨congrArg _ ?_,rfl⟩
            rw [<- az.out]
            first | (simp;omega) | (rw [Bool.eq_iff_iff];simp;omega)
        · have q0':¬ (k:Int)=0:=by omega
          have q0'':((k:Int) == 0)=false:=by simp;omega
          go_wp2_with fail
          go_meet
          exact ⟨bvF az.out (by omega),rfl⟩
      obtain ⟨rfl,T⟩:=hcut
      subst T
      obtain ⟨D3,W⟩:=nm (uel k m c D2)
      have ao:=ua W
      clear W
      go_upto_if 68 with fail
      go_cut [7] from 20 to 83 (fun v wc=>∃ a c',v = .slice a D3.length c'/\Hv wr wc a c' D3 209/\Dr t R i2 wr wc)
      case first =>
        cases q3 with
        | true =>
          have q:=of_decide_eq_true az.out
          rw [uel,if_pos q] at ao
          obtain rfl:=ao.out
          clear q
          go_wp2_with fail
          refine usD 97 d fun X d u hI=>?_
          replace h:=u h
          go_wp2_with fail
          refine ub0 (s:=[97,97]) d hI (by simp) fun a c X d u P=>?_
          replace h:=u h
          go_wp2_with fail
          refine jo 3 0 d fun a c X d u h3=>?_
          replace h:=u h
          go_wp2_with fail
          refine ubZ 5 d (u P) h3 (by omega) fun a c X d u P=>?_
          go_wp2_with fail
          refine ubZ 4 d P (u h) (by omega) fun a c U d u h=>?_
          go_wp2_with fail
          go_meet
          exact ⟨_,_,rfl,h.m (by omega),d⟩
        | false =>
          have q:=of_decide_eq_false az.out
          rw [uel,if_neg q] at ao
          obtain rfl:=ao.out
          clear q
          go_wp2_with fail
          go_meet
          exact ⟨_,_,rfl,h.m (by omega),d⟩
      obtain ⟨a2,a3,rfl,h,d⟩:=hcut
      obtain ⟨a9,T⟩:∃ x,x=wc:=⟨_,rfl⟩
      subst T
      have z4:=HG.out.later d.1.2 (fun x e=>by subst e;exact ak.out) 3
      have d0:=z4.c0
      have d1:=z4.c1
      have e0:=z4.f0
      have e1:=z4.f1
      clear z4
      go_wp2_with fail
      go_region_law
        (first
          | (refine uch uoV rfl (.tmp 77) 3 rfl (y1:=.int .i64 (k:Int)) (by simp [Act.eval,Act.put]) ((udg k (by omega) a9.drew).mono ?_)
             rintro e W5 ⟨v,rfl,l,A,rfl,ch,cf⟩
             have bu:Hid (Keep (fun _=>False) a9 W5):=(Keep.drew _ _).trans cf
             have z0:=(HG.out.later (d.1.2.trans (bu.out.mono (fun _ q=>q.elim))) (fun x e=>by subst e;exact ak.out) 3).c0
             have zl:=ud z0
             have aj:Hid (Ints (New a9 W5) .u8 W5 l 1 (lf [((115+k % 8:Nat):Int)])):=ch
             clear ch cf
             refine ⟨_,rfl,?_⟩)
          | (have ka:=bu.out.trans (Keep.alloc _ _ (.cells #[.slice l 1 A,.slice a2 D3.length a3] 73))
             obtain ⟨G2,ab,au,ap⟩:=ujA (z:=[((115+k % 8:Nat):Int)]) (N:=New a9 W5) (4+2*E.length) ak.out HG.out (d.1.2.trans (ka.mono (fun _ q=>q.elim))) (aj.out.later (ui W5 _)) (h.bd.later ka) (fun x q=>⟨by have:=d.1.2.size;have:=q.1;omega,by have:=q.2;simp;omega⟩) (fun x q=>⟨q.1,by have:=ka.size;have:=q.2;omega⟩) (fun x q q'=>by have:=q.1;have:=q'.2;omega)
             refine ubi rfl (.tmp 76) (.tmp 81) 25 25 rfl (v:=rv) (y:=.slice (some ⟨W5.heap.size,0,none⟩) 1 1) (by simp [Act.eval,Act.put]) (by simp [Act.eval,Act.put]) ulR (n:=E.length) (cs:=E.flatMap yX) (news:=yX ⟨⟨[((115+k % 8:Nat):Int)],true,D3⟩,l,A,a2,a3⟩) ab.gr.rules (ukK (x:=⟨⟨[((115+k % 8:Nat):Int)],true,D3⟩,l,A,a2,a3⟩) (World.alloc_heap_new W5 _)) (by have:=bz.out;omega) ?_
             intro v6 W6 ad Y bn
             obtain ⟨a6,c6,rfl⟩:=uk ad
             obtain ⟨z1,_,z2,_⟩:=uac ab (by omega) Y
             have HE:=ua (umg (x:=⟨⟨[((115+k % 8:Nat):Int)],true,D3⟩,l,A,a2,a3⟩) ab au ap ad Y)
             have HF:=ua (ujB (o:=0) (v:=.slice a6 (E.length+1) c6) cc ce ab (by omega) bf.out (d.1.2.trans (ka.mono (fun _ q=>q.elim))) Y (d.1.1.keep ka (fun _ q=>q.elim)))
             clear ad Y bn ab au ap ka))
      all_goals go_goals
      all_goals go_wp2
      all_goals go_roundw
      all_goals first
        | exact umi a8 al.out cw.out (by rw [am.out,an.out,ao.out]) HE.out HF.out
        | (simp [intOf];omega)
    · obtain rfl:k=n:=by omega
      obtain ⟨L,V⟩:∃ p,uZ t k m S k=p:=⟨_,rfl⟩
      have al:Hid (E.map (·.d)=L.1):=V ▸ a1.out
      have cr:Hid (RdA t R wr L.2):=V ▸ ac.out
      have bb:Hid (((L.1,vD L.1 (vb t k L.2 m).1 m),(vb t k L.2 m).2)=g):=V ▸ bt.out
      have cv:Hid (∀ x∈E,x.d.bd.length<=1048576):=fun x W=>Nat.le_trans (uaN t k m S k x.d (by rw [V,<- al.out];exact List.mem_map.2 ⟨x,W,rfl⟩)).1 (by omega)
      clear V a1 ac bt a8
      obtain ⟨wa,dc⟩:∃ x,x=wr:=⟨_,rfl⟩
      subst dc
      have dw:=bf.out.size
      go_wp2_with fail
      simp only [hm']
      go_loopw [9] (fun iv wr=>dlI t R O.heap.size I k m L.2 rv E iv wr) (fun iv _=>m-(intOf iv).toNat)
      case atStart=>exact ⟨0,G,[],_,Nat.zero_le _,rfl,HG.out,rfl,cr.out,bf.out⟩
      case round =>
        obtain ⟨j,G1,J,lv,hj,rfl,hg,bk,ae,ai⟩:=hrel
        have aa:Hid (zGVar O.heap.size I G1 wr rv lv E J):=hg
        have b5:Hid (J.map (·.d)=(vb t k L.2 j).1):=bk
        have ac:Hid (RdA t R wr (vb t k L.2 j).2):=ae
        have be:Hid (Keep (fun b=>b=R\/b=O.heap.size) I wr):=ai
        have c4:=ae.lt
        have dx:=ai.size
        have b0:Hid (J.length=j):=by
          show J.length=j
          rw [<- List.length_map (f:=(·.d)),bk];exact jJ t k L.2 j
        clear hg bk ae ai
        by_cases a8:j<m
        · have hlt':(j:Int)<(m:Int):=by omega
          have c5:j<3:=by omega
          obtain ⟨q,r⟩:∃ p,qz t k (vb t k L.2 j).2=p:=⟨_,rfl⟩
          have HQ:Hid (qz t k (vb t k L.2 j).2=q):=r
          obtain ⟨i1,bj⟩:∃ p,(vb t k L.2 j).2=p:=⟨_,rfl⟩
          rw [bj] at r
          have b8:Hid (RdA t R wr i1):=bj ▸ ac.out
          have c7:=umk wr j c5 (t:=9)
          have dy:=t.v_le i1
          clear bj ac
          go_upto_region 20 with fail
          generalize b9:wr.alloc (.cells #[.string ⟨#[101,49]⟩,.string ⟨#[101,114,114]⟩,.string ⟨#[109,105,100,95,50]⟩] 9)=A1 at *
          have bq:Hid (Keep (fun _=>False) wr A1):=b9 ▸ Keep.alloc _ _ _
          clear b9
          go_wp2_with (refine ujH rfl _ rfl rfl ?_;intro l A F h1 P;rw [ueI] at h1;rw [ueI];have HN:Hid (Ints (New A1 F) .u8 F l (uaD j).length (lf (uaD j))):=h1;have br:Hid (Keep (fun _=>False) A1 F):=P;clear h1 P)
          generalize hz:uaD j=z at *
          have c3:Hid (uaD j=z):=hz
          clear hz c7
          generalize a4:F.alloc (.cells #[.slice l z.length A,.bool false,.slice none 0 0] 70)=A3 at *
          have bx:Hid (Lb F.heap.size A3 (.slice l z.length A) false (.slice none 0 0)):=a4 ▸ uq6 F _
          have bs:Hid (Keep (fun _=>False) F A3):=a4 ▸ Keep.alloc _ _ _
          have c9:A3.heap.size=F.heap.size+1:=by rw [<- a4];simp
          clear a4
          have c8:=bq.out.size
          have dt:=br.out.size
          have bh:RdOn t R i1 wr A3:=(((RdOn.refl b8.out).quiet bq.out).quiet br.out).quiet bs.out
          refine (uw t R i1 A3 bh.1).mono ?_
          rintro e A4 ⟨rfl,Z⟩
          have b7:Hid (RdOn t R (t.n i1) wr A4):=bh.trans Z
          have aw:Hid (Lb F.heap.size A4 (.slice l z.length A) false (.slice none 0 0)):=bx.out.keep Z.2 (fun e=>by omega)
          have b6:Hid (Ints (New A1 F) .u8 A4 l z.length (lf z)):=(HN.out.kept bs.out (fun _ _ x=>x)).kept Z.2 (fun b x e=>by have:=x.1;omega)
          have du:=Z.2.size
          clear Z bh bx b8
          unfold qz at r
          generalize t.v i1=kc at *
          generalize t.n i1=i2 at *
          obtain ⟨c,hc⟩:∃ c:Nat,kc % 8=c:=⟨_,rfl⟩
          have hc':(kc:Int) % 8=(c:Int):=by omega
          have dp:c<8:=by omega
          rw [hc] at r
          clear hc
          go_upto_if 100 with fail
          go_cut [12] from 84 to 132 (fun v wc=>v = .int .i64 (c:Int)/\∃ ba bc,Lb F.heap.size wc (.slice l z.length A) q.1.1 (.slice ba q.1.2.length bc)/\BodP (New A3 wc) wc (.slice ba q.1.2.length bc) q.1.2/\RdOn t R q.2 wr wc/\Ints (New A1 F) .u8 wc l z.length (lf z))
          case first =>
            by_cases b1:(c:Int)<6
            · rw [if_pos (by omega)] at r
              have l1:=aw.out.c1
              have dd:=aw.out.f1
              have bw:=ua (aw.out.set1 true)
              have af:=ua (b7.out.set (b:=F.heap.size) (o:=1) (v:=.bool true) (by omega) (by omega))
              have aj:=ua (b6.out.kept (Keep.setCell (C:=fun b=>b=F.heap.size) A4 ⟨F.heap.size,1,none⟩ (.bool true) rfl) (fun b x e=>by have:=x.2;omega))
              have da:=(uj A4 ⟨F.heap.size,1,none⟩ (.bool true)).symm
              go_upto_if 103 with fail
              generalize A4.setCell ⟨F.heap.size,1,none⟩ (.bool true)=X at *
              clear l1 dd
              have FL:=ua fun (i:Nat) (w:World) (d:Dr t R i X w)=>bw.out.keep d.1.2 (fun e=>by omega)
              have FI:=ua fun (a:Option Addr) (c:Nat) (D:List OpD) (i n:Nat) (w:World) (d:Dr t R i X w) (h:Hv X w a c D n)=>uq7 (af.out.trans d.1) bw.out aj.out d.1.2 h.bd rfl c9 (by omega) (by omega) c4 c8
              have d:=dr0 af.out.1
              by_cases b2:(c:Int)<2
              · rw [if_pos (by omega)] at r
                obtain ⟨s,hs⟩:=nm (vY t i2)
                have HS:=ua hs
                have ugB:s.1.length<=4:=hs ▸ vB t i2
                rw [hs] at r
                clear hs
                subst r
                go_wp2_with fail
                refine dDs d fun a c U d u h=>?_
                rw [HS.out] at d h ⊢
                go_wp2_with fail
                refine ub0 d h ugB fun a c U d u h=>?_
                go_wp2_with fail
                refine dUn 7 d h (by omega) fun a c U d u h=>?_
                go_wp2_with fail
                refine uml 0 255 d fun a c U d u P=>?_
                go_wp2_with fail
                refine ubZ 4 d (u h) P (by omega) fun a c U d u h=>?_
                go_wp2_with fail
                refine dUn 6 d h (by omega) fun a c U d u h=>?_
                have l2:=(FL.out _ _ d).c2
                have bo:=(FL.out _ _ d).f2
                go_wp2_with fail
                go_meet
                exact ⟨rfl,_,_,FI.out _ _ _ _ _ _ d h⟩
              rw [if_neg (by omega)] at r
              by_cases b3:(c:Int)=2
              · rw [if_pos (by omega)] at r
                subst r
                go_wp2_with fail
                refine jo 0 0 d fun a c U d u h=>?_
                have l2:=(FL.out _ _ d).c2
                have bo:=(FL.out _ _ d).f2
                go_wp2_with fail
                go_meet
                exact ⟨by first | rfl | rw [b3],_,_,FI.out _ _ _ _ _ _ d h⟩
              rw [if_neg (by omega)] at r
              by_cases b4:(c:Int)=3
              · rw [if_pos (by omega)] at r
                subst r
                go_wp2_with fail
                refine uml 0 255 d fun a c U d u h=>?_
                have l2:=(FL.out _ _ d).c2
                have bo:=(FL.out _ _ d).f2
                go_wp2_with fail
                go_meet
                exact ⟨by first | rfl | rw [b4],_,_,FI.out _ _ _ _ _ _ d h⟩
              rw [if_neg (by omega)] at r
              subst r
              go_wp2_with fail
              refine uqB k k 0 3 3 rfl false ⟨by omega,by omega,by omega,by omega⟩ d fun a c U d u h=>?_
              have l2:=(FL.out _ _ d).c2
              have bo:=(FL.out _ _ d).f2
              go_wp2_with fail
              go_meet
              exact ⟨rfl,_,_,FI.out _ _ _ _ _ _ d h⟩
            · rw [if_neg (by omega)] at r
              subst r
              go_wp2_with fail
              go_meet
              exact ⟨rfl,none,0,aw.out,ugJ _ _,b7.out,b6.out⟩
          case rest =>
            obtain ⟨rfl,ba,bc,ag,ca,a5,cb⟩:=hcut
            obtain ⟨H,T⟩:∃ x,x=wc:=⟨_,rfl⟩
            subst T
            have cm:Hid (BodP (New A3 H) H (.slice ba q.1.2.length bc) q.1.2):=ca
            have af:Hid (RdOn t R q.2 wr H):=a5
            have aj:Hid (Ints (New A1 F) .u8 H l z.length (lf z)):=cb
            have gv:=aa.out.later a5.2 (fun x e=>by subst e;exact ak.out) 3
            have g0:=gv.c0
            have g1:=gv.c1
            have dl:=gv.f0
            have dm:=gv.f1
            have l0:=ag.c0
            have l1:=ag.c1
            have l2:=ag.c2
            have da:=a5.2.size
            have dv:F.heap.size<H.heap.size:=ud ag.c0
            have cx:Hid (∀ b,New A1 F b->b<H.heap.size):=fun b x=>by have h1:=x.2;have P:F.heap.size<H.heap.size:=ud ag.c0;omega
            clear ag ca a5 cb gv
            have HM:Hid (∃ G',zGVar O.heap.size I G' (H.alloc (.cells #[.slice l z.length A,.bool q.1.1,.slice ba q.1.2.length bc] 70)) rv lv E J/\Ints (zTg G' (H.alloc (.cells #[.slice l z.length A,.bool q.1.1,.slice ba q.1.2.length bc] 70)) 2) .u8 (H.alloc (.cells #[.slice l z.length A,.bool q.1.1,.slice ba q.1.2.length bc] 70)) l z.length (lf z)/\BodP (zTg G' (H.alloc (.cells #[.slice l z.length A,.bool q.1.1,.slice ba q.1.2.length bc] 70)) (5+2*J.length)) (H.alloc (.cells #[.slice l z.length A,.bool q.1.1,.slice ba q.1.2.length bc] 70)) (.slice ba q.1.2.length bc) q.1.2):=ujA (N:=New A1 F) (B:=New A3 H) (5+2*J.length) ak.out aa.out (af.out.2.trans (Keep.alloc _ _ _)) (aj.out.later (ui H _)) ((cm.out.later (C:=fun _=>False) (Keep.alloc _ _ _) (fun x e=>e.elim))) (fun x y=>⟨by have:=y.1;omega,by have:=cx.out x y;simp;omega⟩) (fun x y=>⟨by have:=y.1;omega,by have:=y.2;simp;omega⟩) (fun x y y'=>by have:=y.2;have:=y'.1;omega)
            obtain ⟨G2,ab,au,ap⟩:=HM.out
            have av:Hid (zGVar O.heap.size I G2 (H.alloc (.cells #[.slice l z.length A,.bool q.1.1,.slice ba q.1.2.length bc] 70)) rv lv E J):=ab
            have cq:Hid (Ints (zTg G2 (H.alloc (.cells #[.slice l z.length A,.bool q.1.1,.slice ba q.1.2.length bc] 70)) 2) .u8 (H.alloc (.cells #[.slice l z.length A,.bool q.1.1,.slice ba q.1.2.length bc] 70)) l z.length (lf z)):=au
            have ck:Hid (BodP (zTg G2 (H.alloc (.cells #[.slice l z.length A,.bool q.1.1,.slice ba q.1.2.length bc] 70)) (5+2*J.length)) (H.alloc (.cells #[.slice l z.length A,.bool q.1.1,.slice ba q.1.2.length bc] 70)) (.slice ba q.1.2.length bc) q.1.2):=ap
            clear ab au ap HM
            go_wp2_with (at_builtin;refine uaL rfl _ _ 26 26 rfl rfl rfl uoY (v:=lv) (Q:=zTg G2 (H.alloc (.cells #[.slice l z.length A,.bool q.1.1,.slice ba q.1.2.length bc] 70)) 1) (n:=J.length) (cs:=J.flatMap yw) (news:=yw ⟨⟨z,q.1.1,q.1.2⟩,l,A,ba,bc⟩) av.out.gr.labs (uib (x:=⟨⟨z,q.1.1,q.1.2⟩,l,A,ba,bc⟩) (World.alloc_heap_new H _)) (by have:=b0.out;omega) ?_;intro v6 W6 ad Y bn;obtain ⟨a6,c6,rfl⟩:=uk ad;obtain ⟨_,z1,_,z2⟩:=uac av.out (by omega) Y;have HE:Hid (∃ G',zGVar O.heap.size I G' (W6.setCell ⟨O.heap.size,1,none⟩ (.slice a6 (J.length+1) c6)) rv (.slice a6 (J.length+1) c6) E (J ++ [⟨⟨z,q.1.1,q.1.2⟩,l,A,ba,bc⟩])):=umh (x:=⟨⟨z,q.1.1,q.1.2⟩,l,A,ba,bc⟩) av.out cq.out ck.out ad Y;have HF:Hid (RdA t R (W6.setCell ⟨O.heap.size,1,none⟩ (.slice a6 (J.length+1) c6)) q.2/\Keep (fun x=>x=R\/x=O.heap.size) I (W6.setCell ⟨O.heap.size,1,none⟩ (.slice a6 (J.length+1) c6))):=ujB cc ce av.out (by omega) be.out (af.out.2.trans (Keep.alloc _ _ _)) Y (af.out.1.keep (Keep.alloc (fun _=>False) _ _) (fun _ x=>x.elim));clear ad Y bn)
            go_roundw
            all_goals first
              | exact umj a8 b5.out HQ.out (by rw [c3.out];exact HE.out) HF.out
              | (simp [intOf];omega)
        · obtain rfl:j=m:=by omega
          obtain ⟨ra,rc,rfl⟩:=uk aa.out.gr.rules
          obtain ⟨la,lc,rfl⟩:=uk aa.out.gr.labs
          have g0:=aa.out.c0
          have g1:=aa.out.c1
          have cj:zTwo w.heap.size wr:=cy.out.keep be.out (fun x=>by rcases x with x | x <;> omega)
          have cz:Hid (zTwo w.heap.size wr):=cj
          clear cj
          go_wp2_with fail
          refine (uiq I wr G1 ra la rc lc E J aa.out.gr aa.out.le (by have:=bz.out;omega) (by have:=b0.out;omega) cv.out).mono ?_
          rintro e w9 ⟨G9,bp,rfl,bi,cg,a7⟩
          obtain ⟨t0,t1,f0,f1⟩:=cz.out.keep a7 (fun x=>by omega)
          have cp:Hid (bp.map (·.d)=vD L.1 (vb t k L.2 j).1 j):=by
            show _=_
            rw [cg,al.out,b5.out,jJ]
          have bg:G9 w.heap.size=3:=bi.tag (by omega)
          have HO:Hid (zGrP w G9 ((w9.setCell ⟨w.heap.size,0,none⟩ (.slice ra E.length rc)).setCell ⟨w.heap.size,1,none⟩ (.slice la J.length lc)) (.slice ra E.length rc) (.slice la J.length lc) E bp):=((bi.set bg).set bg).base (by omega)
          have ct:Hid (RdOn t R (vb t k L.2 j).2 w ((w9.setCell ⟨w.heap.size,0,none⟩ (.slice ra E.length rc)).setCell ⟨w.heap.size,1,none⟩ (.slice la J.length lc))):=by
            refine RdOn.set (RdOn.set ⟨ac.out.keep a7 (fun b x=>by omega),ubm (ubm co.out be.out (fun b x=>?_)) a7 (fun b x=>.inr (by omega))⟩ (Nat.le_refl _) cd) (Nat.le_refl _) cd
            rcases x with x | x
            · exact .inl x
            · exact .inr (by omega)
          clear bi cg a7 bg
          go_wp2
          refine bodyPost_ret (v:=.agg #[.slice ra E.length rc,.slice la J.length lc]) ?_ rfl ?_
          · simp [results,Tryz.f49,go_sem, *]
          · refine ⟨_,_,G9,E,bp,rfl,HO.out,?_,?_,?_⟩
            · rw [<- bb.out];exact al.out
            · rw [<- bb.out];exact cp.out
            · rw [<- bb.out];exact ct.out
namespace M
structure Sound(g:Gr):Prop where
 r1:0<g.nr
 r2:g.nr<=100
 l2:g.nb<=100
 rn:∀i,i<g.nr->NameOK (g.rule i).nl (g.rule i).name
 ln:∀i,i<g.nb->NameOK (g.lab i).nl (g.lab i).name
 rb:∀i,i<g.nr->BodyOK g.nr g.nb (g.rule i).bl (g.rule i).body
 lb:∀i,i<g.nb->(g.lab i).has=true->BodyOK g.nr g.nb (g.lab i).bl (g.lab i).body
 lz:∀i,i<g.nb->(g.lab i).has=false->(g.lab i).bl=0
 ol:ops g<=2000
theorem Valid.sound{g}(h:Valid g):Sound g:=⟨h.r1,h.r2,h.l2,h.rn,h.ln,h.rb,h.lb,h.lz,h.ol⟩
end M
section
open M (OpD ug Gr)
variable {α:Type} [Inhabited α] (f:OpD->α->α->α) (B:Nat->OpD)
theorem ua9(q lo:Nat)(x:α)(d:M.Fed B (q+1))(k:M.ar (B q).kind=2)(e:M.stk f B (q+1)=(lo,x)::M.stk f B lo) :
  ∃s y z,lo<s/\s<q/\M.stk f B q=(s,y)::M.stk f B s/\M.stk f B s=(lo,z)::M.stk f B lo/\x=f (B q) z y/\M.dep B s+1=M.dep B q/\∀j,s<j->j<=q->M.dep B q<=M.dep B j:=by
 have c:M.Fed B q:=d.less (by omega);have a:=M.stk_len f B q c;have n:=d q (by omega);rw[M.stk]at e;match hs:M.stk f B q with
 |[]=>rw[hs]at a;simp at a;omega
 |[(s,y)]=>rw[hs]at a;simp at a;omega
 |(s,y)::(s1,z)::r =>
  rw[hs]at e a;simp only[M.stp,k,if_true,List.cons.injEq,Prod.mk.injEq]at e;obtain⟨⟨rfl,rfl⟩,m⟩:=e;obtain⟨g,b,h⟩:=M.stk_cons f B q c s y _ hs;obtain⟨b1,i,l⟩:=M.stk_cons f B s (c.less (by omega)) s1 z r b.symm;have l2:=M.stk_len f B s (c.less (by omega));rw[<-b]at l2;simp at a l2;exact⟨s,y,z,b1,g,by rw[<-b],by rw[<-b,i],rfl,by omega,h⟩
theorem ucg(q lo:Nat)(x:α)(b:M.Fed B (q+1))(h:M.ar (B q).kind=1)(e:M.stk f B (q+1)=(lo,x)::M.stk f B lo) :
  ∃z,lo<q/\M.stk f B q=(lo,z)::M.stk f B lo/\x=f (B q) z default:=by
 have c:M.Fed B q:=b.less (by omega);have a:=M.stk_len f B q c;have k:=b q (by omega);rw[M.stk]at e;match hs:M.stk f B q with
 |[]=>rw[hs]at a;simp at a;omega
 |(s,z)::r =>
  rw[hs]at e a;simp[M.stp,h]at e;obtain⟨⟨rfl,rfl⟩,g⟩:=e;obtain⟨d,i,j⟩:=M.stk_cons f B q c s z _ hs;exact⟨z,d,by rw[<-g],rfl⟩
end
theorem uoy{nr b o}(h:M.ElemOK nr b o)(c:M.Names o):M.tg nr o<nr+b:=by
 obtain⟨_,_,_,_,d,a⟩:=h;unfold M.tg;unfold M.most at a;rcases c with e|e
 ·rw[if_neg (by omega)];rw[if_neg (by omega),if_pos e]at a;omega
 rw[if_pos e];rw[if_pos e]at a;omega
theorem ubP g la i nr h f lc j o w(d:M.Names o)(k:0<=o.arg)(l:o.arg<=1048576)(m:nr<=1048576) :
  Calls Tryz.prog 95 #[.agg #[.slice g nr h,.slice la f lc],.agg #[.int .i64 o.kind,.slice i o.sl j,.int .i64 o.arg]] w λe w'=>e=.returned (.int .i64 (M.tg nr o:Nat))/\Below w.heap.size w w':=by
 by_cases b:o.kind=2
 ·have c:(o.kind==2)=true:=by simp[b]
  have a:Hid (¬o.kind=3):=by show ¬_;omega
  go_enter Tryz.func95,Tryz.ntmps95;go_wp2;go_ret;exact⟨uD (by unfold M.tg;rw[if_neg a.out];omega),uP w _ _⟩
 have c:(o.kind==2)=false:=by simp[b]
 have a:Hid (o.kind=3):=by rcases d with q|q;exact absurd q b;exact q
 go_enter Tryz.func95,Tryz.ntmps95;go_wp2;go_ret;exact⟨uD (by unfold M.tg;rw[if_pos a.out];omega),uP w _ _⟩
theorem uhV T i j(h:i<=j):M.dep T i<=M.dep T j+(j-i:Nat):=by
 induction j with
 |zero =>
   have:i=0:=(by omega);subst this;simp
 |succ j a =>
  by_cases e:i=j+1
  ·subst e;simp
  have:=a (by omega);have b:=M.ar_bd (T j).kind;rw[M.dep];omega
def uoz(w:World)(T:Nat->OpD)(s e:Nat)(d i:Value)(wr:World):Prop :=
 ∃k:Nat,s<=k/\k<=e/\d=.int .i64 (1-M.dep T e+M.dep T k)/\i=.int .i64 (k:Int)/\wr=w
theorem kY b o n c T w Q(u:∀i,i<n->OpC Q w b (o+i*3) (T i))(F:n<=1048576)e s(D:e<=n)(G:s<e)(r:M.dep T s+1=M.dep T e)(t:∀j,s<j->j<=e->M.dep T e<=M.dep T j) :
  Calls Tryz.prog 85 #[.slice (some ⟨b,o,none⟩) n c,.int .i64 (e:Int)] w λp w'=>p=.returned (.int .i64 (s:Int))/\w=w':=by
 have l:=ua u;have g:=ua r;have h:=ua t;go_enter Tryz.func85,Tryz.ntmps85;go_wp2;go_loopw [5,6] (λd i wr=>uoz w T s e d i wr) (λd i _=>(intOf i).toNat)
 case atStart=>exact⟨e,by omega,Nat.le_refl _,yT (by omega),rfl,rfl⟩
 case round =>
  obtain⟨k,E,a,rfl,rfl,rfl⟩:=hrel;by_cases v:s<k
  ·have B:=h k v a;have C:=uhV T k e a;obtain⟨q,rfl⟩:∃q,k=q+1:=⟨k-1,by omega⟩;obtain⟨x,⟨J,L,y,H⟩,z⟩:=l q (by omega);have A:=M.ar_bd (T q).kind;have m:Hid (M.dep T (q+1)=M.dep T q+(1-M.ar (T q).kind)):=rfl;have N:(0:Int)<((q+1:Nat):Int):=(by omega);have f:(0:Int)<1-M.dep T e+M.dep T (q+1):=(by omega);have O:((q+1:Nat):Int)-1=(q:Int):=(by omega);have P:(q:Int)<n:=(by omega);go_wp2_with (go_at_call 130;refine(ucG _ _).mono ?_;rintro e W ⟨rfl,I⟩;subst W);go_roundw
   case rel=>exact⟨q,by omega,by omega,yT (by have:=m.out;omega),by first|rfl|go_num,by trivial⟩
   case measure=>simp[intOf]<;>omega
  obtain rfl:k=s:=by omega
  have f:1-M.dep T e+M.dep T k=0:=by have:=g;omega
  rw[f];go_wp2;all_goals go_ret
  all_goals exact⟨rfl,rfl⟩
def BoolsA(w:World)(b o n:Nat)(mk:Nat->Bool):Prop:=∀i,i<n->w.cell? ⟨b,o+i,none⟩=some (.bool (mk i))
theorem BoolsA.later{w w' b o n mk}(h:BoolsA w b o n mk)(k:Below w.heap.size w w'):BoolsA w' b o n mk:=λi a=>ue (h i a) k
theorem xX B lo j:M.dep (λi=>B (lo+i)) j=M.dep B (lo+j)-M.dep B lo:=by
 induction j with
 |zero=>simp[M.dep]
 |succ j a=>rw[M.dep,a,show lo+(j+1)=lo+j+1 by omega,M.dep];omega
theorem uz(m:Nat)(h:m<=1048576):IntKind.i64.wrap (m:Int)=(m:Int):=by
 simp[IntKind.wrap,IntKind.bits,IntKind.signed];omega
def ujh(x:Bool)(w:World)(e:Ending)(w':World):Prop:=e=.returned (.bool x)/\Below w.heap.size w w'
end Go.Proofs.YtimfigongapdnaaGreat
