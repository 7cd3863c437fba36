import Derived.Test.YtimfigongapdnaaGreatT25
set_option linter.unusedVariables false
set_option linter.unusedSimpArgs false
set_option maxHeartbeats 40000000
set_option maxRecDepth 100000
namespace Go.Proofs.YtimfigongapdnaaGreat
open Go.RowKit
open M (OpD ug Gr)
structure Tok where
  kind:Int
  at_:Nat
  nm:List Int
  set:List Int
def kO(c:Int):Prop:=M.Letter c\/M.Digit c
instance (c:Int):Decidable (M.Letter c):=by unfold M.Letter;infer_instance
instance (c:Int):Decidable (M.Digit c):=by unfold M.Digit;infer_instance
instance (c:Int):Decidable (kO c):=by unfold kO;infer_instance
def yt(t:Tx):Nat->Nat->List Int->List Int×Nat
  |0,j,z=>(z,j)
  |f+1,j,z=>if j<t.n/\kO (t.T j) then yt t f (j+1) (z++[t.T j]) else (z,j)
def oneS:List Int:=[61,59,47,33,38,42,63,40,41,46,94]
def xM(t:Tx)(i:Nat):Tok×Nat :=
  if M.Letter (t.T i) then (⟨110,i,(yt t (t.n-i) i []).1,[]⟩,(yt t (t.n-i) i []).2)
  else if t.T i=34 then (match uhm t i with | none=>(⟨0,i,[],[]⟩,i) | some (z,j)=>(⟨34,i,z,[]⟩,j))
  else if t.T i=91 then (match ucM t i with | none=>(⟨0,i,[],[]⟩,i) | some (z,j)=>(⟨91,i,[],z⟩,j))
  else if t.T i∈oneS then (⟨t.T i,i,[],[]⟩,i+1)
  else (⟨0,i,[],[]⟩,i+1)
def ub5(k:Tok)(a:Option Addr)(b:Nat)(c:Option Addr)(d:Nat):Array Value:=#[.int .u8 k.kind,.int .i64 k.at_,.slice a k.nm.length b,.slice c k.set.length d]
def umW(r:Tok×Nat)(w:World)(e:Ending)(w':World):Prop :=
  ∃a c b d,e=.returned (.tuple #[.agg (ub5 r.1 a c b d),.int .i64 r.2])/\Ints (New w w') .u8 w' a r.1.nm.length (lf r.1.nm)/\Ints (New w w') .i64 w' b r.1.set.length (lf r.1.set)/\Keep (fun _=>False) w w'
abbrev uk2:Array Value:=#[.int .u8 0,.int .i64 0,.slice none 0 0,.slice none 0 0]
structure TkB(w wr:World)(k:Int)(i:Nat)(nv sv:Value):Prop where
  r:wr.heap[w.heap.size]? = some (.cells uk2 62)
  v:wr.heap[w.heap.size+1]? = some (.cells #[.int .u8 k,.int .i64 i,nv,sv] 62)
  bel:Below w.heap.size w wr
theorem TkB.start w(i:Nat):TkB w ((w.alloc (.cells uk2 62)).alloc (.cells #[.int .u8 0,.int .i64 i,.slice none 0 0,.slice none 0 0] 62)) 0 i (.slice none 0 0) (.slice none 0 0) :=
  ⟨uaa (yK w _ _ rfl) _,yK _ _ _ (by simp),uP w _ _⟩
theorem TkB.keep{w wr e k i c d C}(h:TkB w wr k i c d)(t:Keep C wr e)(a:∀b,C b->w.heap.size+2<=b):TkB w e k i c d:=by
  have f:=(Array.getElem?_eq_some_iff.1 h.v).1;refine⟨(t.block _ (by omega) (fun q=>by have:=a _ q;omega)).trans h.r,(t.block _ f (fun q=>by have:=a _ q;omega)).trans h.v,?_⟩
  exact h.bel.trans (t.below (by omega) (fun b g q=>by have:=a _ q;omega))
theorem TkB.name{w wr k i b a}(h:TkB w wr k i b a)v:TkB w (wr.setCell ⟨w.heap.size+1,2,none⟩ v) k i v a :=
  ⟨(Below.heap_setCell _ _ _ _ (by simp)).trans h.r,vP v h.v,h.bel.setCell (by simp) _⟩
theorem urA{w wr W4 i d c v4 z x}(k:TkB w wr 0 i d c)(m:OwnC (fun b=>(w.heap.size+2<=b/\b<wr.heap.size)\/(wr.drew.alloc (.cells #[.int .u8 x] 5)).heap.size<=b) W4 v4 1 (z.length+1) (uS .u8 (lf z) z.length++[.int .u8 x]))(u:Grew (fun b=>w.heap.size+2<=b/\b<wr.heap.size) (wr.drew.alloc (.cells #[.int .u8 x] 5)) W4):TkB w W4 0 i d c/\TkB w (W4.setCell ⟨w.heap.size+1,2,none⟩ v4) 0 i v4 c/\OwnC (fun b=>w.heap.size+2<=b/\b<(W4.setCell ⟨w.heap.size+1,2,none⟩ v4).heap.size) (W4.setCell ⟨w.heap.size+1,2,none⟩ v4) v4 1 (z++[x]).length (uS .u8 (lf (z++[x])) (z++[x]).length):=by
  have D:=(Array.getElem?_eq_some_iff.1 k.v).1;have o:TkB w (wr.drew.alloc (.cells #[.int .u8 x] 5)) 0 i d c:=k.keep ((Keep.drew (fun _=>False) wr).trans (Keep.alloc _ _ _)) (fun b q=>q.elim)
  have f:=o.keep u.kept (fun b q=>q.1)
  refine⟨f,f.name v4,?_⟩;rw[udF]at m;rw[show (z++[x]).length=z.length+1 by simp]
  have C:(wr.drew.alloc (.cells #[.int .u8 x] 5)).heap.size=wr.heap.size+1:=by simp
  rcases m with⟨_,q,_⟩|⟨b,cap,e,B,p,r,g,s⟩
  · omega
  have t:w.heap.size+2<=b:=by
    rcases B with q | q
    · exact q.1
    · omega
  have l:0<(uS .u8 (lf (z++[x])) (z.length+1)).length:=by rw[xR];omega
  have A:b<W4.heap.size:=by
    have h:=g 0 l;rw[List.getElem?_eq_getElem l]at h;exact ud h
  have n:(W4.setCell ⟨w.heap.size+1,2,none⟩ v4).heap[b]? = W4.heap[b]?:=Below.heap_setCell _ _ _ _ (by show b≠w.heap.size+1;omega)
  exact .inr ⟨b,cap,e,⟨t,by rw[uj];exact A⟩,p,r,fun j y=>(World.cell?_of_block (a:=⟨b,j,none⟩) n).trans (g j y),s.later n⟩
abbrev Two(w:World):Nat->Prop:=fun b=>w.heap.size<=b/\b<w.heap.size+2
theorem TkB.fin{w wr a k i d e}(h:TkB w wr k i d e)(c:Keep (Two w) wr a):Keep (fun _=>False) w a:=by
  have g:=(Array.getElem?_eq_some_iff.1 h.v).1;exact Below.kept (h.bel.trans (c.below (by omega) (fun b f q=>by have:=q.1;omega)))
theorem udy{w wr c k a n S}(e:Keep (Two w) wr c)(h:Ints (fun b=>w.heap.size+2<=b/\b<wr.heap.size) k wr a n S):Ints (New w c) k c a n S :=
  (h.on (fun b d=>e.block b d.2 (fun q=>by have:=q.2;omega))).wide (fun b d=>⟨by omega,by have:=e.size;omega⟩)
theorem kP{w W a}(h:Keep (Two w) W a)o v:Keep (Two w) W (a.setCell ⟨w.heap.size,o,none⟩ v):=h.trans (Keep.setCell _ _ _ ⟨Nat.le_refl _,by simp⟩)
theorem umX{w W a}(h:Keep (Two w) W a)o v:Keep (Two w) W (a.setCell ⟨w.heap.size+1,o,none⟩ v):=h.trans (Keep.setCell _ _ _ ⟨by simp,by simp⟩)
def NmI(t:Tx)(i:Nat)(r:List Int×Nat)(w:World)(u:Value)(wr:World):Prop :=
  ∃(f j:Nat) (z:List Int) (v:Value),j<=t.n/\t.n-j<=f/\z.length<=j/\u=.int .i64 j/\yt t f j z=r/\TkB w wr 0 i v (.slice none 0 0)/\OwnC (fun b=>w.heap.size+2<=b/\b<wr.heap.size) wr v 1 z.length (uS .u8 (lf z) z.length)
theorem ue2 t{f j z}(a:t.n-j<=f):yt t f j z=if j<t.n/\kO (t.T j) then yt t (f-1) (j+1) (z++[t.T j]) else (z,j):=by
  cases f with
  |zero=>rw[yt,if_neg (fun q=>by omega)]
  |succ f=>rw[yt];rfl
theorem ujQ t:∀(f j:Nat) (z:List Int) (r:List Int×Nat),j<=t.n->udG t f j z=some r->j<r.2/\r.2<=t.n
  |0,j,z,r,hj,h=>by cases h
  |f+1,j,z,r,hj,h=>by
    rw[udG]at h;split at h
    · rename_i q
      injection h with h
      subst h;exact⟨Nat.lt_succ_self _,q.1⟩
    · split at h
      · cases h
      · have:=jS t j false hj
        have:=ujQ t f _ _ r (by omega) h
        omega
theorem ufS{t i}{r:List Int×Nat}(a:i<t.n)(h:uhm t i=some r):i+1<r.2/\r.2<=t.n:=ujQ t _ _ _ r a h
theorem ufT t:∀(f j:Nat) (m:Nat->Bool) (r:(Nat->Bool)×Nat),j<=t.n->qE t f j m=some r->j<=r.2/\r.2<t.n
  |0,j,m,r,hj,h=>by cases h
  |f+1,j,m,r,hj,h=>by
    have a:=jS t j true hj;rw[qE]at h;split at h
    · rename_i q
      injection h with h
      subst h;exact⟨Nat.le_refl _,q.1⟩
    · split at h
      · cases h
      · split at h
        · rename_i q
          have b:=jS t (j+(chr t j true).2+1) true (by omega)
          split at h
          · cases h
          · have:=ufT t f _ _ r (by omega) h
            omega
        · have:=ufT t f _ _ r (by omega) h
          omega
theorem ufU{t i}{r:List Int×Nat}(c:i<t.n)(h:ucM t i=some r):i+1<r.2/\r.2<=t.n:=by
  unfold ucM at h;have b:i+1<=ug7 t i/\ug7 t i<=t.n:=by
    unfold ug7;split
    · rename_i q
      have:=of_decide_eq_true q;omega
    · omega
  cases a:qE t (t.n+2-i) (ug7 t i) (fun _=>false) with
  |none=>rw[a]at h;cases h
  |some q =>
    obtain⟨m,j⟩:=q;rw[a,umJ]at h;injection h with h
    subst h;have:=ufT t _ _ _ _ b.2 a;simp only at this ⊢;omega
theorem TkB.kind{w wr k i b c}(h:TkB w wr k i b c)a:TkB w (wr.setCell ⟨w.heap.size+1,0,none⟩ (.int .u8 a)) a i b c :=
  ⟨(Below.heap_setCell _ _ _ _ (by simp)).trans h.r,vP _ h.v,h.bel.setCell (by simp) _⟩
theorem TkB.cset{w wr k i a b}(h:TkB w wr k i a b)v:TkB w (wr.setCell ⟨w.heap.size+1,3,none⟩ v) k i a v :=
  ⟨(Below.heap_setCell _ _ _ _ (by simp)).trans h.r,vP _ h.v,h.bel.setCell (by simp) _⟩
theorem uhg{w W:World}{b o a:Nat}{v c:Value}(h:w.heap.size+2<=b):((W.setCell ⟨w.heap.size+1,o,none⟩ v).setCell ⟨w.heap.size+1,a,none⟩ c).heap[b]? = W.heap[b]? :=
  (Below.heap_setCell _ _ _ _ (by show b≠w.heap.size+1;omega)).trans (Below.heap_setCell _ _ _ _ (by show b≠w.heap.size+1;omega))
def kd(x:Int)(k:Nat):Int:=if x∈oneS.take k then x else 0
theorem urB{x c k}(h:oneS.take (k+1)=oneS.take k++[c])(e:c=x):kd x (k+1)=x:=by
  unfold kd;rw[h,if_pos (by simp[e])]
theorem upj{x c k}(h:oneS.take (k+1)=oneS.take k++[c])(e:¬c=x):kd x (k+1)=kd x k:=by
  unfold kd;rw[h];have:(x∈oneS.take k++[c])↔x∈oneS.take k:=by
    rw[List.mem_append,List.mem_singleton];exact⟨fun q=>q.elim id (fun q=>absurd q.symm e),.inl⟩
  simp only[this]
theorem urC x:kd x 11=if x∈oneS then x else 0:=rfl
theorem qH{w wr k j a c d e}(h:TkB w wr k.kind k.at_ (.slice a k.nm.length d) (.slice c k.set.length e))(g:Ints (fun b=>w.heap.size+2<=b/\b<wr.heap.size) .u8 wr a k.nm.length (lf k.nm))(i:Ints (fun b=>w.heap.size+2<=b/\b<wr.heap.size) .i64 wr c k.set.length (lf k.set)) :
    umW (k,j) w (.returned (.tuple #[.agg (ub5 k a d c e),.int .i64 j])) ((((wr.setCell ⟨w.heap.size,0,none⟩ (.int .u8 k.kind)).setCell ⟨w.heap.size,1,none⟩ (.int .i64 k.at_)).setCell ⟨w.heap.size,2,none⟩ (.slice a k.nm.length d)).setCell ⟨w.heap.size,3,none⟩ (.slice c k.set.length e)):=by
  have f:=kP (kP (kP (kP (Keep.refl (Two w) wr) 0 (.int .u8 k.kind)) 1 (.int .i64 k.at_)) 2 (.slice a k.nm.length d)) 3 (.slice c k.set.length e);exact⟨a,d,c,e,rfl,udy f g,udy f i,h.fin f⟩
theorem uiA Q t a c i w(hT:TxA Q w a t)(U:i<t.n) :
    Calls Tryz.prog 60 #[.slice a t.n c,.int .i64 i] w (umW (xM t i) w):=by
  have au:=t.le;have hi':(i:Int)<t.n:=by omega
  obtain⟨b,off,rfl,hq,J⟩:=hT.at U;have k0:=J i U;have lb:b<w.heap.size:=ud k0;have b0:=t.byt i;have P:Hid (TxA Q w (some ⟨b,off,none⟩) t):=hT;clear J hT;unfold xM;by_cases V:M.Letter (t.T i)
  · obtain⟨nr,ai⟩:∃r,yt t (t.n-i) i []=r:=⟨_,rfl⟩
    rw[if_pos V,ai];have HL:Hid (M.Letter (t.T i)):=V;clear V;go_enter Tryz.func60,Tryz.ntmps60;go_wp2_with fail;refine (vk (t.T i) _ b0.1 b0.2).mono ?_;rintro e W ⟨⟨r,rfl,l⟩,X⟩;subst W;obtain rfl:r=true:=l.2 HL.out;clear l;go_wp2_with fail;have B:=TkB.start w i;have B:Hid (TkB w ((w.alloc (.cells uk2 62)).alloc (.cells #[.int .u8 0,.int .i64 i,.slice none 0 0,.slice none 0 0] 62)) 0 i (.slice none 0 0) (.slice none 0 0)):=B;go_loopw [8] (fun u wr=>NmI t i nr w u wr) (fun u _=>t.n-(intOf u).toNat)
    case atStart=>exact⟨t.n-i,i,[],_,by omega,Nat.le_refl _,by simp,rfl,ai,B.out,.inl ⟨rfl,rfl,rfl⟩⟩
    case round =>
      obtain⟨f,j,z,v,hj,hf,hz,rfl,hn,N,hO⟩:=hrel;clear B ai k0;obtain⟨F,G,rfl⟩:=uk hO;have o:Hid (TkB w wr 0 i (.slice F z.length G) (.slice none 0 0)):=N;have HO:Hid (OwnC (fun b=>w.heap.size+2<=b/\b<wr.heap.size) wr (.slice F z.length G) 1 z.length (uS .u8 (lf z) z.length)):=hO
      have ac:Hid (TxA Q wr (some ⟨b,off,none⟩) t):=P.out.later N.bel;obtain⟨d,hd⟩:∃d,decide (j<t.n/\kO (t.T j))=d:=⟨_,rfl⟩;have H:Hid (decide (j<t.n/\kO (t.T j))=d):=hd;have HN:Hid (yt t f j z=nr):=hn;clear N hO hd hn;go_upto_region 5 with fail
      go_cut [41] from 24 to 52 (fun v wc=>v=.bool d/\wr=wc)
      case first =>
        by_cases C:j<t.n
        · have h1':(j:Int)<t.n:=by omega
          obtain⟨b',aq,e,_,J⟩:=ac.out.at C;cases e
          have k1:=J j C;have b1:=t.byt j;clear J;by_cases E:M.Letter (t.T j)
          · have ab:Hid (M.Letter (t.T j)):=E
            have L:Hid (d=true):=by show d=true;rw[<-H.out];simp[C,kO,E]
            clear E;go_wp2_with (go_at_call 98;refine (vk (t.T j) _ b1.1 b1.2).mono ?_;rintro e W ⟨⟨r,rfl,l⟩,X⟩;subst W;obtain rfl:r=true:=l.2 ab.out;clear l);go_meet
            case rel=>exact⟨by rw[L.out],rfl⟩
          · have ab:Hid (¬M.Letter (t.T j)):=E
            by_cases S:M.Digit (t.T j)
            · have af:Hid (M.Digit (t.T j)):=S
              have L:Hid (d=true):=by show d=true;rw[<-H.out];simp[C,kO,S]
              clear E S;go_wp2_with (first|(go_at_call 98;refine (vk (t.T j) _ b1.1 b1.2).mono ?_;rintro e W ⟨⟨r,rfl,l⟩,X⟩;subst W;obtain rfl:r=false:=by { cases r;rfl;exact absurd (l.1 rfl) ab.out };clear l)|(go_at_call 99;refine (ja (t.T j) _ b1.1 b1.2).mono ?_;rintro e W ⟨⟨r,rfl,l⟩,X⟩;subst W;obtain rfl:r=true:=l.2 af.out;clear l))
              go_meet
              case rel=>exact⟨by rw[L.out],rfl⟩
            · have af:Hid (¬M.Digit (t.T j)):=S
              have L:Hid (d=false):=by show d=false;rw[<-H.out];simp[C,kO,E,S]
              clear E S;go_wp2_with (first|(go_at_call 98;refine (vk (t.T j) _ b1.1 b1.2).mono ?_;rintro e W ⟨⟨r,rfl,l⟩,X⟩;subst W;obtain rfl:r=false:=by { cases r;rfl;exact absurd (l.1 rfl) ab.out };clear l)|(go_at_call 99;refine (ja (t.T j) _ b1.1 b1.2).mono ?_;rintro e W ⟨⟨r,rfl,l⟩,X⟩;subst W;obtain rfl:r=false:=by { cases r;rfl;exact absurd (l.1 rfl) af.out };clear l))
              go_meet
              case rel=>exact⟨by rw[L.out],rfl⟩
        · have h1':¬(j:Int)<t.n:=by omega
          have L:Hid (d=false):=by show d=false;rw[<-H.out];simp[C]
          go_wp2;go_meet
          case rel=>exact⟨by rw[L.out],rfl⟩
      case rest =>
        obtain⟨rfl,rfl⟩:=hcut;have c2:wr.cell? ⟨w.heap.size+1,2,none⟩=some (.slice F z.length G):=ul o.out.v rfl;have f2:wr.frozen? ⟨w.heap.size+1,2,none⟩=false:=uy o.out.v;have av:=ud c2;cases d with
        |true =>
          obtain⟨C,E⟩:=of_decide_eq_true H.out;have h1':(j:Int)<t.n:=by omega
          obtain⟨b',aq,e,_,J⟩:=ac.out.at C;cases e
          have k1:=J j C;have b1:=t.byt j;have ag:Hid (yt t (f-1) (j+1) (z++[t.T j])=nr):=by
            have:=HN.out;rw[ue2 t hf,if_pos ⟨C,E⟩]at this;exact this
          clear J H E HN;have an:Hid (OwnC (fun b=>w.heap.size+2<=b/\b<wr.heap.size) (wr.drew.alloc (.cells #[.int .u8 (t.T j)] 5)) (.slice F z.length G) 1 z.length (uS .u8 (lf z) z.length)):=HO.out.on (fun b p=>((Keep.drew (fun _=>False) wr).trans (Keep.alloc _ _ _)).block b p.2 (fun q=>q))
          have ao:Hid (Src Tryz.prog 1 22 (.slice (some ⟨wr.drew.heap.size,0,none⟩) 1 1) 1 [.int .u8 (t.T j)] (wr.drew.alloc (.cells #[.int .u8 (t.T j)] 5))):=ufZ _ _;have ae:=fun v4 W4=>urA (z:=z) (x:=t.T j) (W4:=W4) (v4:=v4) o.out
          have ae:Hid (∀v4 W4,OwnC (fun b=>(w.heap.size+2<=b/\b<wr.heap.size)\/(wr.drew.alloc (.cells #[.int .u8 (t.T j)] 5)).heap.size<=b) W4 v4 1 (z.length+1) (uS .u8 (lf z) z.length++[.int .u8 (t.T j)])->Grew (fun b=>w.heap.size+2<=b/\b<wr.heap.size) (wr.drew.alloc (.cells #[.int .u8 (t.T j)] 5)) W4->TkB w W4 0 i (.slice F z.length G) (.slice none 0 0)/\TkB w (W4.setCell ⟨w.heap.size+1,2,none⟩ v4) 0 i v4 (.slice none 0 0)/\OwnC (fun b=>w.heap.size+2<=b/\b<(W4.setCell ⟨w.heap.size+1,2,none⟩ v4).heap.size) (W4.setCell ⟨w.heap.size+1,2,none⟩ v4) v4 1 (z++[t.T j]).length (uS .u8 (lf (z++[t.T j])) (z++[t.T j]).length)):=ae
          clear HO o ac;generalize t.T j=x at *;go_upto_region 6 with fail
          go_region_law
            (refine ubi rfl (.tmp 43) (.tmp 48) 22 22 rfl (v:=.slice F z.length G) (y:=.slice (some ⟨wr.drew.heap.size,0,none⟩) 1 1) (by simp[Act.eval,Act.put]) (by simp[Act.eval,Act.put]) qw (Q:=fun b=>w.heap.size+2<=b/\b<wr.heap.size) (n:=z.length) (cs:=uS .u8 (lf z) z.length) (m:=1) (news:=[.int .u8 x]) an.out ao.out (by omega) ?_
             intro v4 W4 aj al ap;obtain⟨a4,c4,rfl⟩:=uk aj;obtain⟨q1,q2,q3⟩:=ae.out _ _ aj al;have r2:W4.cell? ⟨w.heap.size+1,2,none⟩=some (.slice F z.length G):=ul q1.v rfl;have r3:W4.frozen? ⟨w.heap.size+1,2,none⟩=false:=uy q1.v;have HE:Hid (NmI t i nr w (.int .i64 ((j+1:Nat):Int)) (W4.setCell ⟨w.heap.size+1,2,none⟩ (.slice a4 (z.length+1) c4))):=⟨f-1,j+1,_,_,C,by omega,by simp;omega,rfl,ag.out,q2,q3⟩
             clear aj al ap q1 q2 q3)
          all_goals go_goals
          all_goals (
            go_wp2;go_roundw;all_goals first
              |exact HE.out
              | (simp[intOf];omega)
              |omega)
        |false =>
          have am:=of_decide_eq_false H.out;have ag:Hid ((z,j)=nr):=by
            have:=HN.out;rw[ue2 t hf,if_neg am]at this;exact this
          clear H am HN ac;have c0:wr.cell? ⟨w.heap.size+1,0,none⟩=some (.int .u8 0):=ul o.out.v rfl;have c1:wr.cell? ⟨w.heap.size+1,1,none⟩=some (.int .i64 (i:Int)):=ul o.out.v rfl;have c3:wr.cell? ⟨w.heap.size+1,3,none⟩=some (.slice none 0 0):=ul o.out.v rfl;have f0:wr.frozen? ⟨w.heap.size+1,0,none⟩=false:=uy o.out.v;have d0:wr.cell? ⟨w.heap.size,0,none⟩=some (.int .u8 0):=ul o.out.r rfl;have d1:wr.cell? ⟨w.heap.size,1,none⟩=some (.int .i64 0):=ul o.out.r rfl;have d2:wr.cell? ⟨w.heap.size,2,none⟩=some (.slice none 0 0):=ul o.out.r rfl;have d3:wr.cell? ⟨w.heap.size,3,none⟩=some (.slice none 0 0):=ul o.out.r rfl;have e0:wr.frozen? ⟨w.heap.size,0,none⟩=false:=uy o.out.r;have e1:wr.frozen? ⟨w.heap.size,1,none⟩=false:=uy o.out.r;have e2:wr.frozen? ⟨w.heap.size,2,none⟩=false:=uy o.out.r;have e3:wr.frozen? ⟨w.heap.size,3,none⟩=false:=uy o.out.r;go_wp2
          (try simp only[Exit.inBlock,Exit.then])
          refine bodyPost_ret (v:=.tuple #[.agg #[.int .u8 110,.int .i64 i,.slice F z.length G,.slice none 0 0],.int .i64 j]) ?_ rfl ?_
          · rw[results_cell_tmp rfl]
            go_simp
          · obtain rfl:=ag.out
            have hk:=kP (kP (kP (kP (umX (Keep.refl (Two w) wr) 0 (.int .u8 110)) 0 (.int .u8 110)) 1 (.int .i64 i)) 2 (.slice F z.length G)) 3 (.slice none 0 0);exact⟨F,G,none,0,rfl,udy hk (yZ HO.out),.inl rfl,o.out.fin hk⟩
  · rw[if_neg V]
    have HL:Hid (¬M.Letter (t.T i)):=V;clear V;have B:Hid (TkB w ((w.alloc (.cells uk2 62)).alloc (.cells #[.int .u8 0,.int .i64 i,.slice none 0 0,.slice none 0 0] 62)) 0 i (.slice none 0 0) (.slice none 0 0)):=TkB.start w i;obtain⟨R,hR⟩:∃R,(if t.T i=34 then (match uhm t i with | none=>((⟨0,i,[],[]⟩:Tok),i) | some (z,j)=>(⟨34,i,z,[]⟩,j))
      else if t.T i=91 then (match ucM t i with | none=>(⟨0,i,[],[]⟩,i) | some (z,j)=>(⟨91,i,[],z⟩,j))
      else if t.T i∈oneS then (⟨t.T i,i,[],[]⟩,i+1)
      else (⟨0,i,[],[]⟩,i+1))=R:=⟨_,rfl⟩
    rw[hR];have I:Hid (_=R):=hR;clear hR;go_enter Tryz.func60,Tryz.ntmps60;go_wp2_with fail;refine (vk (t.T i) _ b0.1 b0.2).mono ?_;rintro e W ⟨⟨r,rfl,l⟩,X⟩;subst W;obtain rfl:r=false:=by { cases r;rfl;exact absurd (l.1 rfl) HL.out }
    clear l k0;generalize t.T i=x at *;by_cases x1:x=34
    · subst x1
      go_wp2_with fail;generalize (w.alloc (.cells uk2 62)).alloc (.cells #[.int .u8 0,.int .i64 i,.slice none 0 0,.slice none 0 0] 62)=Y at *;refine (uf0 Q t (some ⟨b,off,none⟩) c i Y (P.out.later B.out.bel) U).mono ?_;intro e W A;obtain⟨aa,A⟩:=A;have g:Hid (TkB w W 0 i (.slice none 0 0) (.slice none 0 0)):=B.out.keep aa (fun b q=>q.elim)
      have ah:Hid (w.heap.size+2<=Y.heap.size):=(Array.getElem?_eq_some_iff.1 B.out.v).1;clear aa P;have c0:W.cell? ⟨w.heap.size+1,0,none⟩=some (.int .u8 0):=ul g.out.v rfl;have c1:W.cell? ⟨w.heap.size+1,1,none⟩=some (.int .i64 (i:Int)):=ul g.out.v rfl;have c2:W.cell? ⟨w.heap.size+1,2,none⟩=some (.slice none 0 0):=ul g.out.v rfl;have c3:W.cell? ⟨w.heap.size+1,3,none⟩=some (.slice none 0 0):=ul g.out.v rfl;have f0:W.frozen? ⟨w.heap.size+1,0,none⟩=false:=uy g.out.v;have f2:W.frozen? ⟨w.heap.size+1,2,none⟩=false:=uy g.out.v;have f3:W.frozen? ⟨w.heap.size+1,3,none⟩=false:=uy g.out.v;have d0:W.cell? ⟨w.heap.size,0,none⟩=some (.int .u8 0):=ul g.out.r rfl;have d1:W.cell? ⟨w.heap.size,1,none⟩=some (.int .i64 0):=ul g.out.r rfl;have d2:W.cell? ⟨w.heap.size,2,none⟩=some (.slice none 0 0):=ul g.out.r rfl;have d3:W.cell? ⟨w.heap.size,3,none⟩=some (.slice none 0 0):=ul g.out.r rfl;have e0:W.frozen? ⟨w.heap.size,0,none⟩=false:=uy g.out.r;have e1:W.frozen? ⟨w.heap.size,1,none⟩=false:=uy g.out.r;have e2:W.frozen? ⟨w.heap.size,2,none⟩=false:=uy g.out.r;have e3:W.frozen? ⟨w.heap.size,3,none⟩=false:=uy g.out.r;obtain⟨sr,D⟩:∃r,uhm t i=r:=⟨_,rfl⟩;rw[D]at A;have s:=I.out;rw[if_pos trivial]at s;rw[D]at s;cases sr with
      |none =>
        simp only at A s;subst A;subst s;clear I D;go_wp2
        (try simp only[Exit.inBlock,Exit.then])
        refine bodyPost_ret (v:=.tuple #[.agg (ub5 ⟨0,i,[],[]⟩ none 0 none 0),.int .i64 (i:Int)]) ?_ rfl ?_
        · rw[results_cell_tmp rfl]
          unfold ub5;go_simp
        · exact qH (k:=⟨0,i,[],[]⟩) (j:=i) g.out (.inl rfl) (.inl rfl)
      |some q =>
        obtain⟨z,j⟩:=q;simp only at A s;obtain⟨O,sc,rfl,Z⟩:=A;subst s;have ad:=ufS U D;simp only at ad;have hlt':(0:Int)<(j:Int)-i:=by omega
        have HI:Hid (Ints (fun b=>w.heap.size+2<=b/\b<W.heap.size) .u8 W O z.length (lf z)):=Z.wide (fun b p=>⟨by have:=p.1;have:=ah.out;omega,p.2⟩)
        clear I D Z;go_wp2
        (try simp only[Exit.inBlock,Exit.then])
        refine bodyPost_ret (v:=.tuple #[.agg (ub5 ⟨34,i,z,[]⟩ O sc none 0),.int .i64 (j:Int)]) ?_ rfl ?_
        · rw[results_cell_tmp rfl]
          unfold ub5;go_simp;omega
        · have N:=(g.out.kind 34).name (.slice O z.length sc)
          exact qH (k:=⟨34,i,z,[]⟩) (j:=j) N (HI.out.on (fun b p=>(uhg p.1)) |>.wide (fun b p=>⟨p.1,by rw[uj,uj];exact p.2⟩)) (.inl rfl)
    have x1':(x==34)=false:=by simpa using x1
    by_cases x2:x=91
    · subst x2
      go_wp2_with fail;generalize (w.alloc (.cells uk2 62)).alloc (.cells #[.int .u8 0,.int .i64 i,.slice none 0 0,.slice none 0 0] 62)=Y at *;refine (ug8 Q t (some ⟨b,off,none⟩) c i Y (P.out.later B.out.bel) U).mono ?_;intro e W A;obtain⟨aa,A⟩:=A;have g:Hid (TkB w W 0 i (.slice none 0 0) (.slice none 0 0)):=B.out.keep aa (fun b q=>q.elim)
      have ah:Hid (w.heap.size+2<=Y.heap.size):=(Array.getElem?_eq_some_iff.1 B.out.v).1;clear aa P;have c0:W.cell? ⟨w.heap.size+1,0,none⟩=some (.int .u8 0):=ul g.out.v rfl;have c1:W.cell? ⟨w.heap.size+1,1,none⟩=some (.int .i64 (i:Int)):=ul g.out.v rfl;have c2:W.cell? ⟨w.heap.size+1,2,none⟩=some (.slice none 0 0):=ul g.out.v rfl;have c3:W.cell? ⟨w.heap.size+1,3,none⟩=some (.slice none 0 0):=ul g.out.v rfl;have f0:W.frozen? ⟨w.heap.size+1,0,none⟩=false:=uy g.out.v;have f2:W.frozen? ⟨w.heap.size+1,2,none⟩=false:=uy g.out.v;have f3:W.frozen? ⟨w.heap.size+1,3,none⟩=false:=uy g.out.v;have d0:W.cell? ⟨w.heap.size,0,none⟩=some (.int .u8 0):=ul g.out.r rfl;have d1:W.cell? ⟨w.heap.size,1,none⟩=some (.int .i64 0):=ul g.out.r rfl;have d2:W.cell? ⟨w.heap.size,2,none⟩=some (.slice none 0 0):=ul g.out.r rfl;have d3:W.cell? ⟨w.heap.size,3,none⟩=some (.slice none 0 0):=ul g.out.r rfl;have e0:W.frozen? ⟨w.heap.size,0,none⟩=false:=uy g.out.r;have e1:W.frozen? ⟨w.heap.size,1,none⟩=false:=uy g.out.r;have e2:W.frozen? ⟨w.heap.size,2,none⟩=false:=uy g.out.r;have e3:W.frozen? ⟨w.heap.size,3,none⟩=false:=uy g.out.r;obtain⟨sr,D⟩:∃r,ucM t i=r:=⟨_,rfl⟩;rw[D]at A;have s:=I.out;rw[if_neg (by decide),if_pos trivial]at s
      rw[D]at s;cases sr with
      |none =>
        simp only at A s;subst A;subst s;clear I D;go_wp2
        (try simp only[Exit.inBlock,Exit.then])
        refine bodyPost_ret (v:=.tuple #[.agg (ub5 ⟨0,i,[],[]⟩ none 0 none 0),.int .i64 (i:Int)]) ?_ rfl ?_
        · rw[results_cell_tmp rfl]
          unfold ub5;go_simp
        · exact qH (k:=⟨0,i,[],[]⟩) (j:=i) g.out (.inl rfl) (.inl rfl)
      |some q =>
        obtain⟨z,j⟩:=q;simp only at A s;obtain⟨O,sc,rfl,Z⟩:=A;subst s;have ad:=ufU U D;simp only at ad;have hlt':(0:Int)<(j:Int)-i:=by omega
        have HI:Hid (Ints (fun b=>w.heap.size+2<=b/\b<W.heap.size) .i64 W O z.length (lf z)):=Z.wide (fun b p=>⟨by have:=p.1;have:=ah.out;omega,p.2⟩)
        clear I D Z;go_wp2
        (try simp only[Exit.inBlock,Exit.then])
        refine bodyPost_ret (v:=.tuple #[.agg (ub5 ⟨91,i,[],z⟩ none 0 O sc),.int .i64 (j:Int)]) ?_ rfl ?_
        · rw[results_cell_tmp rfl]
          unfold ub5;go_simp;omega
        · have N:=(g.out.kind 91).cset (.slice O z.length sc)
          exact qH (k:=⟨91,i,[],z⟩) (j:=j) N (.inl rfl) (HI.out.on (fun b p=>(uhg p.1)) |>.wide (fun b p=>⟨p.1,by rw[uj,uj];exact p.2⟩))
    have x2':(x==91)=false:=by simpa using x2
    have s:Hid ((⟨kd x 11,i,[],[]⟩,i+1)=R):=by
      have:=I.out;rw[if_neg x1,if_neg x2]at this;show _=R;rw[<-this,urC];split<;>rfl
    clear I;go_wp2_with fail;go_loopw [14] (fun u wr=>∃k:Nat,k<=11/\u=.int .i64 k/\TkB w wr (kd x k) i (.slice none 0 0) (.slice none 0 0)) (fun u _=>11-(intOf u).toNat)
    case atStart=>exact⟨0,by omega,rfl,B.out⟩
    case round =>
      obtain⟨k,hk,rfl,hW⟩:=hrel;have g:Hid (TkB w wr (kd x k) i (.slice none 0 0) (.slice none 0 0)):=hW;clear hW B P;have c0:wr.cell? ⟨w.heap.size+1,0,none⟩=some (.int .u8 (kd x k)):=ul g.out.v rfl;have f0:wr.frozen? ⟨w.heap.size+1,0,none⟩=false:=uy g.out.v;by_cases ad:k<11
      · have ak:oneS.take (k+1)=oneS.take k++[lf oneS k]:=by
          rcases (show k=0\/k=1\/k=2\/k=3\/k=4\/k=5\/k=6\/k=7\/k=8\/k=9\/k=10 by omega) with rfl | rfl | rfl | rfl | rfl | rfl | rfl | rfl | rfl | rfl | rfl
          all_goals rfl
        have HK:Hid (lf oneS k=x->TkB w (wr.setCell ⟨w.heap.size+1,0,none⟩ (.int .u8 x)) (kd x (k+1)) i (.slice none 0 0) (.slice none 0 0)):=fun q=>by
          rw[urB ak q];exact g.out.kind x
        have HK':Hid (¬lf oneS k=x->TkB w wr (kd x (k+1)) i (.slice none 0 0) (.slice none 0 0)):=fun q=>by
          rw[upj ak q];exact g.out
        clear g ak;generalize kd x k=kx at c0;rcases (show k=0\/k=1\/k=2\/k=3\/k=4\/k=5\/k=6\/k=7\/k=8\/k=9\/k=10 by omega) with rfl | rfl | rfl | rfl | rfl | rfl | rfl | rfl | rfl | rfl | rfl
        all_goals (
          go_wp2;all_goals (
            rename_i h
            first
            |exact⟨⟨_,by decide,rfl,HK.out (eq_of_beq h)⟩,by simp[intOf]⟩
            |exact⟨⟨_,by decide,rfl,HK'.out (fun q=>by subst q;exact absurd h (by decide))⟩,by simp[intOf]⟩))
      · obtain rfl:k=11:=by omega
        have c1:wr.cell? ⟨w.heap.size+1,1,none⟩=some (.int .i64 (i:Int)):=ul g.out.v rfl;have c2:wr.cell? ⟨w.heap.size+1,2,none⟩=some (.slice none 0 0):=ul g.out.v rfl;have c3:wr.cell? ⟨w.heap.size+1,3,none⟩=some (.slice none 0 0):=ul g.out.v rfl;have d0:wr.cell? ⟨w.heap.size,0,none⟩=some (.int .u8 0):=ul g.out.r rfl;have d1:wr.cell? ⟨w.heap.size,1,none⟩=some (.int .i64 0):=ul g.out.r rfl;have d2:wr.cell? ⟨w.heap.size,2,none⟩=some (.slice none 0 0):=ul g.out.r rfl;have d3:wr.cell? ⟨w.heap.size,3,none⟩=some (.slice none 0 0):=ul g.out.r rfl;have e0:wr.frozen? ⟨w.heap.size,0,none⟩=false:=uy g.out.r;have e1:wr.frozen? ⟨w.heap.size,1,none⟩=false:=uy g.out.r;have e2:wr.frozen? ⟨w.heap.size,2,none⟩=false:=uy g.out.r;have e3:wr.frozen? ⟨w.heap.size,3,none⟩=false:=uy g.out.r;generalize kd x 11=kx at *;go_wp2
        (try simp only[Exit.inBlock,Exit.then])
        refine bodyPost_ret (v:=.tuple #[.agg (ub5 ⟨kx,i,[],[]⟩ none 0 none 0),.int .i64 ((i+1:Nat):Int)]) ?_ rfl ?_
        · rw[results_cell_tmp rfl]
          unfold ub5;go_simp
        · rw[<-s.out]
          exact qH (k:=⟨kx,i,[],[]⟩) (j:=i+1) g.out (.inl rfl) (.inl rfl)
end Go.Proofs.YtimfigongapdnaaGreat
