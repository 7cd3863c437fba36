import Derived.Test.YtimfigongapdnaaGreatT34
import Derived.Deep.WholeRow
set_option linter.unusedVariables false
set_option linter.unusedSimpArgs false
set_option maxHeartbeats 40000000
set_option maxRecDepth 100000
namespace Go.Proofs.YtimfigongapdnaaGreat
open Go.RowKit Go.Shelf
attribute [local go_sem] Oper.semAt_some
def kh(f:Nat->Int):Nat->Int
 |0=>0
 |n+1=>kh f n+f n
theorem uhs(f g:Nat->Int)(n:Nat):kh (fun j=>f j+g j) n=kh f n+kh g n:=by
 induction n with
 |zero=>rfl
 |succ n ih=>rw[kh,kh,kh,ih];omega
theorem ue7(n:Nat):kh (fun _=>0) n=0:=by
 induction n with
 |zero=>rfl
 |succ n ih=>rw[kh,ih];rfl
theorem ujY(c:Int)(k n:Nat):kh (fun j=>if j=k then c else 0) n=if k<n then c else 0:=by
 induction n with
 |zero=>simp[kh]
 |succ n ih =>
  rw[kh,ih];by_cases h:k<n
  ·have h2:k<n+1:=by omega
   have h3:¬n=k:=by omega
   simp[h,h2,h3]
  ·by_cases e:n=k
   ·subst e;simp
   ·have h2:¬k<n+1:=by omega
    simp[h,h2,e]
def plo(S:Nat->Int)(p:Nat):Int:=max (S (2*p)) 0
def phi(S:Nat->Int)(p:Nat):Int:=min (S (2*p+1)) 255
def dlt(S:Nat->Int)(p i:Nat):Int :=
 if plo S p<=phi S p then (if i=(plo S p).toNat then 1 else 0)+(if i=(phi S p).toNat+1 then -1 else 0) else 0
def chg(S:Nat->Int):Nat->Nat->Int
 |0,_=>0
 |p+1,i=>chg S p i+dlt S p i
theorem uak(S:Nat->Int):∀(p i:Nat),-(p:Int)<=chg S p i/\chg S p i<=p
 |0,i=>⟨Int.le_refl _,Int.le_refl _⟩
 |p+1,i=>by
  have:=uak S p i;rw[chg];unfold dlt;split
  ·split<;>split<;>omega
  ·omega
theorem upM(S:Nat->Int)(p b:Nat)(hb:b<256):kh (dlt S p) (b+1)=if S (2*p)<=b/\(b:Int)<=S (2*p+1) then 1 else 0:=by
 by_cases h:plo S p<=phi S p
 ·have e:dlt S p=fun i=>(if i=(plo S p).toNat then 1 else 0)+(if i=(phi S p).toNat+1 then -1 else 0):=by funext i;unfold dlt;rw[if_pos h]
  rw[e,uhs,ujY,ujY];have h1:0<=plo S p:=Int.le_max_right _ _;have h2:phi S p<=255:=Int.min_le_right _ _;unfold plo phi at *;by_cases q1:S (2*p)<=b
  ·by_cases q2:(b:Int)<=S (2*p+1)
   ·rw[if_pos (by omega),if_neg (by omega),if_pos ⟨q1,q2⟩];rfl
   ·rw[if_pos (by omega),if_pos (by omega),if_neg (fun q=>q2 q.2)];rfl
  ·rw[if_neg (by omega),if_neg (by omega),if_neg (fun q=>q1 q.1)];rfl
 ·have e:dlt S p=fun i=>0:=by funext i;unfold dlt;rw[if_neg h]
  rw[e,ue7];unfold plo phi at h;rw[if_neg];rintro⟨q1,q2⟩;omega
theorem ujZ(S:Nat->Int)(b:Nat)(hb:b<256):∀p:Nat,0<=kh (chg S p) (b+1)/\(0<kh (chg S p) (b+1)↔yJ S (b:Int) p=true)
 |0=>by
  have e:chg S 0=fun _=>0:=rfl
  rw[e,ue7];simp[yJ]
 |p+1=>by
  obtain⟨h1,h2⟩:=ujZ S b hb p;have e:chg S (p+1)=fun i=>chg S p i+dlt S p i:=rfl
  rw[e,uhs,upM S p b hb,yJ];by_cases q:S (2*p)<=b/\(b:Int)<=S (2*p+1)
  ·rw[if_pos q]
   refine⟨by omega,fun _=>?_,fun _=>by omega⟩
   simp[q.1,q.2]
  ·rw[if_neg q]
   refine⟨by omega,?_⟩
   rw[Int.add_zero,h2];have:(decide (S (2*p)<=(b:Int))&&decide ((b:Int)<=S (2*p+1)))=false:=by
    simp only[Bool.and_eq_false_iff,decide_eq_false_iff_not];by_cases r:S (2*p)<=(b:Int)
    ·exact .inr (fun r2=>q ⟨r,r2⟩)
    ·exact .inl r
   rw[this,Bool.or_false]
theorem ue8(S:Nat->Int)(p:Nat):∀n:Nat,-((n*p:Nat):Int)<=kh (chg S p) n/\kh (chg S p) n<=((n*p:Nat):Int)
 |0=>by simp[kh]
 |n+1=>by
  have h1:=ue8 S p n;have h2:=uak S p n;rw[kh,Nat.add_mul,Nat.one_mul,Int.natCast_add];omega
theorem upN:(Tryz.prog.info? 233).map (fun i=>(i.zero,i.size))=some (some (.agg (madeCells #[.int .i64 0] 257)),257):=by kernel_rfl
structure AdOwn(w:World)(f:Nat->Int)(x:World):Prop where
 row:x.rowIs w.heap.size 233 257 (fun i=>.int .i64 (f i))
 bel:Below w.heap.size w x
 size:w.heap.size+2<=x.heap.size
theorem AdOwn.below{w:World}{f:Nat->Int}{x z:World}(h:AdOwn w f x)(hb:Below (w.heap.size+2) x z):AdOwn w f z :=
 ⟨h.row.of_block (hb.block _ (by omega)),h.bel.trans (hb.mono (by omega)),Nat.le_trans h.size hb.size⟩
def adI(w:World)(n:Nat)(S:Nat->Int)(p:Nat)(x:World):Prop:=AdOwn w (chg S p) x/\2*p<=n
structure ung(mb o:Nat)(N:Nat->Bool)(w:World)(e:Ending)(w':World):Prop where
 val:∃v,e=.returned v
 mem:∀i,i<256->w'.cell? ⟨mb,o+i,none⟩=some (.bool (N i))
 rest:∀j,(j<o\/o+256<=j)->w'.cell? ⟨mb,j,none⟩=w.cell? ⟨mb,j,none⟩
 frz:∀j,w'.frozen? ⟨mb,j,none⟩=w.frozen? ⟨mb,j,none⟩
 kept:Kept (fun x=>x=mb) w w'
structure AdR(w:World)(mb o k:Nat)(S:Nat->Int)(p:Nat)(M:Nat->Bool)(d:Nat)(x:World):Prop where
 row:x.rowIs w.heap.size 233 257 (fun i=>.int .i64 (chg S p i))
 mem:∀i,i<256->x.cell? ⟨mb,o+i,none⟩=some (.bool (if i<k then yJ S (i:Int) p||M i else M i))
 rest:∀j,(j<o\/o+256<=j)->x.cell? ⟨mb,j,none⟩=w.cell? ⟨mb,j,none⟩
 frz:∀j,x.frozen? ⟨mb,j,none⟩=w.frozen? ⟨mb,j,none⟩
 kept:Kept (fun x=>x=mb) w x
 size:w.heap.size+2<=x.heap.size
 dd:x.heap[d]? = some (.deferred (some []))
def adL(w:World)(mb o:Nat)(S:Nat->Int)(p:Nat)(M:Nat->Bool)(d:Nat)(ov iv:Value)(x:World):Prop :=
 ∃k:Nat,k<=256/\iv=.int .i64 (k:Int)/\ov=.int .i64 (kh (chg S p) k)/\AdR w mb o k S p M d x
theorem AdR.yes{w:World}{mb o k:Nat}{S:Nat->Int}{p:Nat}{M:Nat->Bool}{d:Nat}{x:World}(h:AdR w mb o k S p M d x)(hk:k<256)(hmb:mb<w.heap.size)(hd:w.heap.size+2<=d)(hh:yJ S (k:Int) p=true):AdR w mb o (k+1) S p M d (x.setCell ⟨mb,o+k,none⟩ (.bool true)):=by
 refine⟨h.row.of_block (Below.heap_setCell _ _ _ _ (by show w.heap.size≠mb;omega)),fun i hi=>?_,fun j hj=>?_,fun j=>(World.frozen?_setCell _ _ _ _).trans (h.frz j),⟨h.kept.os,h.kept.tape,h.kept.output,by rw[uj];exact h.kept.size,fun b hb hn=>(Below.heap_setCell _ _ _ _ hn).trans (h.kept.block b hb hn)⟩,by rw[uj];exact h.size,(Below.heap_setCell _ _ _ _ (by show d≠mb;omega)).trans h.dd⟩
 ·by_cases e:i=k
  ·subst e
   rw[uu (h.mem i hi),if_pos (by omega),hh];rfl
  ·rw[um (by omega),h.mem i hi]
   by_cases q:i<k
   ·rw[if_pos q,if_pos (by omega)]
   ·rw[if_neg q,if_neg (by omega)]
 ·rw[um (by omega)];exact h.rest j hj
theorem AdR.no{w:World}{mb o k:Nat}{S:Nat->Int}{p:Nat}{M:Nat->Bool}{d:Nat}{x:World}(h:AdR w mb o k S p M d x)(hk:k<256)(hh:yJ S (k:Int) p=false):AdR w mb o (k+1) S p M d x:=by
 refine⟨h.row,fun i hi=>?_,h.rest,h.frz,h.kept,h.size,h.dd⟩
 rw[h.mem i hi];by_cases e:i=k
 ·subst e
  rw[if_neg (by omega),if_pos (by omega),hh,Bool.false_or]
 ·by_cases q:i<k
  ·rw[if_pos q,if_pos (by omega)]
  ·rw[if_neg q,if_neg (by omega)]
theorem ucp(mb o:Nat)(M:Nat->Bool)(a:Option Addr)(n c:Nat)(S:Nat->Int)(sb so:Nat)(w:World)(hn:n<=1048576)(ha:0<n->a=some ⟨sb,so,none⟩)(hS:∀i,i<n->w.cell? ⟨sb,so+i,none⟩=some (.int .i64 (S i)))
  (hM:∀i,i<256->w.cell? ⟨mb,o+i,none⟩=some (.bool (M i))) (hF:∀j,w.frozen? ⟨mb,j,none⟩=false) :
  CallsIn Fence.wide 0 Tryz.prog 160 #[.pointer (some ⟨mb,o,none⟩),.slice a n c] w (ung mb o (fun i=>yr n S (i:Int)||M i) w):=by
 have hdep:Fence.wide.depth=none:=rfl;have HS:=ua hS;have HM:=ua hM;have HF:=ua hF;have hll:0<n->sb<w.heap.size:=fun h=>ud (hS 0 h)
 have hmb:=ud (hM 0 (by omega))
 have hz:=(zero_of_info (P:=Tryz.prog) upN).1;refine callsIn_of_wp_marks Tryz.func160 rfl trivial ?_ rfl;simp only[Tryz.ntmps160,List.size_toArray,List.length_cons,List.length_nil,Nat.reduceAdd,Nat.reduceSub,Array.replicate_succ,Array.replicate_zero,List.push_toArray,List.append_toArray,List.nil_append,List.cons_append]
 gi_wp2_with (refine⟨trivial,?_⟩;gi_at_call 159;refine (uhz _ _ _ _).mono ?_;rintro e w' ⟨rfl,rfl⟩)
 obtain⟨Wl,hWl⟩:=nm ((w.alloc (Obj.cells (madeCells #[Value.int IntKind.i64 0] 257) 233)).alloc (Obj.cells #[Value.slice a n c] 36));have sWl:Wl.heap.size=w.heap.size+2:=by rw[<-hWl];simp
 have bWl:Below w.heap.size w Wl:=by rw[<-hWl];exact uP w _ _
 have hm:=World.rowIs_made w (.int .i64 0) 257 233;have hx:=xy (w.alloc (Obj.cells (madeCells #[Value.int IntKind.i64 0] 257) 233)) (.slice a n c) 36;simp only[World.size_alloc]at hx;rw[hWl]at hx;have oWl:AdOwn w (chg S 0) Wl:=⟨by rw[<-hWl];exact (hm.alloc _).congr (fun i hi=>rfl),bWl,by omega⟩
 have sW:∀i,i<n->Wl.cell? ⟨sb,so+i,none⟩=some (.int .i64 (S i)):=fun i hi=>ue (HS i hi) bWl
 rw[hWl];refine uao (gf:=163) (lb:=#[.pointer (some ⟨w.heap.size+1,0,none⟩)]) rfl (enters_of Tryz.func163 (by kernel_rfl) rfl)
  (ucr (w.heap.size+1) a n c S sb so Wl hn hx ha sW) (fun _=>rfl) ?hD (fun k=>k=w.heap.size) ?hCD ?hCw
  (adI w n S) (fun _ _ _=>False) ?hI ?hIx ?h0 ?round ?done ?stop
 case hD =>
  rintro k (rfl | ⟨rfl,hm0⟩)
  ·omega
  ·have:=hll hm0;omega
 case hCD =>
  rintro k (rfl | ⟨rfl,hm0⟩) hc
  ·omega
  ·have:=hll hm0;omega
 case hCw =>
  rintro k hk hc;omega
 case hI =>
  rintro s A E ⟨ho,hp⟩ hbel;exact⟨ho.below (hbel.mono (by omega)),hp⟩
 case hIx =>
  rintro cd s A E h hbel;exact h
 case h0=>exact⟨oWl,by omega⟩
 case round =>
  intro l' p x hl1 hl2 hIs hlt;unfold uj6
  gi_wp2
  refine⟨Keep.refl _ _,hIs,?_⟩;rintro x2 hk2 hs2 ⟨ho,hc1⟩;have hlt0:=hlt;have HO:=ua ho;have hb:=uak S p;have hp':p<=1048576:=by omega
  have hrow:=ho.row;obtain⟨u,hu⟩:=nm (S (2*p));obtain⟨v,hv⟩:=nm (S (2*p+1));have HLO:Hid (plo S p=max u 0):=by show _=_;rw[<-hu];rfl
  have HHI:Hid (phi S p=min v 255):=by show _=_;rw[<-hv];rfl
  rw[hu,hv];have key:∀(l h:Nat),plo S p=l->phi S p=h->l<=h->h<=255 ->
    ∃c1 c2:Int,x2.cell? ⟨w.heap.size,l,none⟩=some (.int .i64 c1)/\x2.cell? ⟨w.heap.size,h+1,none⟩=some (.int .i64 c2)/\-1048576<=c1/\c1<=1048576/\-1048576<=c2/\c2<=1048576 /\
     x2.frozen? ⟨w.heap.size,l,none⟩=false/\x2.frozen? ⟨w.heap.size,h+1,none⟩=false /\
     AdOwn w (chg S (p+1)) ((x2.setCell ⟨w.heap.size,l,none⟩ (.int .i64 (c1+1))).setCell ⟨w.heap.size,h+1,none⟩ (.int .i64 (c2-1))):=fun l h e1 e2 hle h5=>by
   refine⟨chg S p l,chg S p (h+1),hrow.cell (by omega),hrow.cell (by omega),by have:=hb l;omega,by have:=hb l;omega,by have:=hb (h+1);omega,by have:=hb (h+1);omega,hrow.frozen _,hrow.frozen _,?_⟩
   have hd:∀i,chg S (p+1) i=chg S p i+((if i=l then 1 else 0)+(if i=h+1 then -1 else 0)):=fun i=>by
    show chg S p i+dlt S p i=_;unfold dlt;rw[if_pos (by rw[e1,e2];omega),e1,e2]
    rfl
   refine⟨((hrow.set l _).set (h+1) _).congr (fun i hi=>?_),(HO.bel.setCell (p:=⟨w.heap.size,l,none⟩) (Nat.le_refl _) _).setCell (p:=⟨w.heap.size,h+1,none⟩) (Nat.le_refl _) _,by rw[uj,uj];exact HO.size⟩
   rw[hd i];by_cases q1:i=h+1
   ·have q2:¬i=l:=by omega
    subst q1;simp[q2];omega
   ·by_cases q2:i=l
    ·subst q2;simp[q1]
    ·simp[q1,q2]
  have none_:¬plo S p<=phi S p->AdOwn w (chg S (p+1)) x2:=fun hle=>by
   have e:chg S (p+1)=chg S p:=by
    funext i
    show chg S p i+dlt S p i=_;unfold dlt;rw[if_neg hle,Int.add_zero]
   rw[e];exact HO
  have KEY:=key;have NONE:=ua none_;have lx:w.heap.size<x2.heap.size:=by have:=HO.size;omega
  have HKP:Hid (∀(l h:Nat) (v1 v2:Value),Keep (fun k=>k=w.heap.size) x2 ((x2.setCell ⟨w.heap.size,l,none⟩ v1).setCell ⟨w.heap.size,h,none⟩ v2)):=fun l h v1 v2=>(Keep.setCell (C:=fun k=>k=w.heap.size) _ ⟨w.heap.size,l,none⟩ _ rfl).trans (Keep.setCell (C:=fun k=>k=w.heap.size) _ ⟨w.heap.size,h,none⟩ _ rfl)
  by_cases q1:u<0
  ·by_cases q2:255<v
   ·skip
    obtain⟨c1,c2,k1,k2,r1,r2,r3,r4,g1,g2,hA⟩:=KEY 0 255 (by rw[HLO.out];omega) (by rw[HHI.out];omega) (by omega) (by omega)
    have HA:=ua hA
    gi_wp2
    exact⟨HKP _ _ _ _,HA,by omega⟩
   ·by_cases q3:0<=v
    ·obtain⟨h,rfl⟩:=Int.eq_ofNat_of_zero_le q3
     have q4:(h:Int)+1<257:=by omega
     have q5:((h:Int)+1).toNat=h+1:=by omega
     obtain⟨c1,c2,k1,k2,r1,r2,r3,r4,g1,g2,hA⟩:=KEY 0 h (by rw[HLO.out];omega) (by rw[HHI.out];omega) (by omega) (by omega)
     have HA:=ua hA
     gi_wp2
     exact⟨HKP _ _ _ _,HA,by omega⟩
    ·skip
     have HA:=NONE (by rw[HLO.out,HHI.out];omega)
     gi_wp2
     exact⟨Keep.refl _ _,HA,by omega⟩
  ·obtain⟨l,rfl⟩:=Int.eq_ofNat_of_zero_le (show 0<=u by omega)
   by_cases q2:255<v
   ·by_cases q3:l<=255
    ·have q4:(l:Int)<=255:=by omega
     have q5:(l:Int)<257:=by omega
     obtain⟨c1,c2,k1,k2,r1,r2,r3,r4,g1,g2,hA⟩:=KEY l 255 (by rw[HLO.out];omega) (by rw[HHI.out];omega) (by omega) (by omega)
     have HA:=ua hA
     gi_wp2
     exact⟨HKP _ _ _ _,HA,by omega⟩
    ·have q4:¬(l:Int)<=255:=by omega
     have HA:=NONE (by rw[HLO.out,HHI.out];omega)
     gi_wp2
     exact⟨Keep.refl _ _,HA,by omega⟩
   ·by_cases q3:(l:Int)<=v
    ·obtain⟨h,rfl⟩:=Int.eq_ofNat_of_zero_le (show 0<=v by omega)
     have q4:(h:Int)+1<257:=by omega
     have q5:((h:Int)+1).toNat=h+1:=by omega
     have q6:(l:Int)<257:=by omega
     have ne:l≠h+1:=by omega
     obtain⟨c1,c2,k1,k2,r1,r2,r3,r4,g1,g2,hA⟩:=KEY l h (by rw[HLO.out];omega) (by rw[HHI.out];omega) (by omega) (by omega)
     have HA:=ua hA
     gi_wp2
     exact⟨HKP _ _ _ _,HA,by omega⟩
    ·skip
     have HA:=NONE (by rw[HLO.out,HHI.out];omega)
     gi_wp2
     exact⟨Keep.refl _ _,HA,by omega⟩
 case done =>
  rintro d p x hd hnm ⟨ho,hc1⟩ hK;have hnm':=hnm;have hdx:=(Array.getElem?_eq_some_iff.1 hK).1;have HO:=ua ho;have hp':p<=1048576:=by omega
  gi_wp2
  gi_loopw [7,31] (fun ov iv wr=>adL w mb o S p M d ov iv wr) (fun ov iv _=>256-(intOf iv).toNat)
  case atStart=>exact⟨0,by omega,rfl,rfl,⟨HO.row,fun i hi=>by rw[if_neg (by omega)];exact ue (HM i hi) HO.bel,fun j hj=>HO.bel.cell (p:=⟨mb,j,none⟩) hmb,fun j=>HO.bel.frozen (p:=⟨mb,j,none⟩) hmb,Kept.of HO.bel,HO.size,hK⟩⟩
  case round =>
   obtain⟨k,hk,rfl,rfl,hR⟩:=hrel;have HR:=ua hR;by_cases hlt:k<256
   ·have c0:=hR.row.cell (i:=k) (by omega)
    have lx:=ud c0;have c1:=hR.mem k hlt;have f1:=(hR.frz (o+k)).trans (HF _);have b1:=uak S p k;have b2:=ue8 S p k;have b4:((k*p:Nat):Int)<=268435456:=by
     have:k*p<=256*1048576:=Nat.mul_le_mul (by omega) hp'
     omega
    have hsum:=ujZ S k hlt p;have lm:=ud c1;have hlt':(k:Int)<256:=by omega
    have hlt2:(k:Int)<257:=by omega
    obtain⟨u,hu⟩:=nm (kh (chg S p) k);obtain⟨v,hv⟩:=nm (chg S p k);have HE:Hid (kh (chg S p) (k+1)=u+v):=by show kh (chg S p) k+chg S p k=_;rw[hu,hv]
    rw[HE.out]at hsum;rw[hu]at b2;rw[hv]at b1 c0;rw[hu];have v1 : -1048576<=v:=by omega
    have v2:v<=1048576:=by omega
    have u1 : -268435456<=u:=by omega
    have u2:u<=268435456:=by omega
    have HSU:=ua hsum.2;clear hu hv b1 b2 b4 hsum hR;by_cases hpos:0<u+v
    ·have HN:=HR.yes hlt hmb (by omega) (HSU.1 hpos)
     have HNN:=ua HN;clear HN
     gi_wp2
     go_roundw
     case rel=>exact⟨k+1,by omega,by go_num,by rw[HE.out],HNN⟩
     case measure=>simp[intOf];omega
    ·have HN:=HR.no hlt (by cases q:yJ S (k:Int) p with | false=>rfl | true=>exact absurd (HSU.2 q) hpos)
     have HNN:=ua HN;clear HN
     gi_wp2
     go_roundw
     case rel=>exact⟨k+1,by omega,by go_num,by rw[HE.out],HNN⟩
     case measure=>simp[intOf];omega
   ·obtain rfl:k=256:=by omega
    have hKr:=hR.dd
    gi_wp2
    refine⟨by simp,.inl ⟨_,_,rfl,run_takeDeferred hKr,?_⟩⟩
    have hbp:=xE (B:=w.heap.size+2) wr (.deferred none) (d:=d) (by omega) HR.size
    have hq:∀i:Nat,yr n S (i:Int)=yJ S (i:Int) p:=fun i=>by
     unfold yr;rw[show n / 2=p by omega]
    refine⟨_,results_none rfl _ _ _,⟨_,rfl⟩,fun i hi=>?_,fun j hj=>(hbp.cell (p:=⟨mb,j,none⟩) (by show mb<_;omega)).trans (HR.rest j hj),fun j=>(hbp.frozen (p:=⟨mb,j,none⟩) (by show mb<_;omega)).trans (HR.frz j),?_⟩
    ·rw[hbp.cell (p:=⟨mb,o+i,none⟩) (by show mb<_;omega),HR.out.mem i hi,if_pos hi,hq i]
    ·have hkp:=HR.kept
     exact⟨hbp.os.trans hkp.os,hbp.tape.trans hkp.tape,hbp.output.trans hkp.output,Nat.le_trans hkp.size hbp.size,fun x hx hn=>(hbp.block x (by omega)).trans (hkp.block x hx hn)⟩
 case stop =>
  rintro d cd p x hd hsm h hK;exact h.elim
theorem uby(Q:Nat->Prop)(mb o:Nat)(M:Nat->Bool)(a:Option Addr)(n c:Nat)(S:Nat->Int)(w:World)(hn:n<=1048576)(hS:Ints Q .i64 w a n S)(hM:∀i,i<256->w.cell? ⟨mb,o+i,none⟩=some (.bool (M i)))(hF:∀j,w.frozen? ⟨mb,j,none⟩=false) :
  Calls Tryz.prog 160 #[.pointer (some ⟨mb,o,none⟩),.slice a n c] w (ung mb o (fun i=>yr n S (i:Int)||M i) w):=by
 rcases hS with rfl | ⟨sb,so,rfl,hq,hS⟩
 ·exact callsIn_wide.1 (ucp mb o M a 0 c S 0 0 w hn (fun h=>absurd h (by omega)) (fun i h=>absurd h (by omega)) hM hF)
 ·exact callsIn_wide.1 (ucp mb o M _ n c S sb so w hn (fun _=>rfl) hS hM hF)
section
open Go.RowKit
def uiY(md:Region.Mode)(o:Oper)(L:Nat):Bool:=(List.range L).all λj=>o.after.any λe=>e.on==j&&Region.binds md e
def uka(ops:Array Oper):Bool:=(List.range ops.size).all λj=>match ops[j]? with|some o=>o.after.all λe=>decide (e.on<j)|none=>true
section
variable {P:Program} {md:Region.Mode} {ops:Array Oper} {C:World->Prop}
theorem ulr{l:Array Bool}{j}(h:l.getD j true=true)(a:j<l.size):l.getD j false=true:=by
 simp[Array.getD,a]at h ⊢;exact h
theorem uff(g:uka ops=true)(a:Array Bool)(l:a.size=ops.size)(h:Region.ready md ops a = []):∀j,j<ops.size->a.getD j true=true:=by
 intro j;induction j using Nat.strongRecOn with
 |_ j k =>
  intro b;cases e:a.getD j true with
  |true=>rfl
  |false =>
   have:j∈Region.ready md ops a:=by
    rw[mem_ready];refine⟨e,ops[j],by simp[b],λx i _=>?_⟩;have c:=List.all_eq_true.1 g j (List.mem_range.2 b);simp only[Array.getElem?_eq_getElem b]at c;have d:=Array.all_eq_true'.1 c x i;have f:x.on<j:=(by simpa using d);exact ulr (k x.on f (by omega)) (by omega)
   rw[h]at this;cases this
theorem uiZ{o:Oper}{L:Nat}(O:ops.size=L+1)(s:ops[L]?=some o)(E:uiY md o L=true)(t:uka ops=true){Q:Act->Prop}{Q':Exit->Act->World->Prop}
  (y:∀a w,C w->Q a->Region.wanted o (yielded ops a.tmps)=true/\∀K:Act->World->Prop,(∀a w,Q' .normal a w->K a w)->o.wp P a w K Q') :
  ∀(fuel:Nat) (b:Array Bool) (a:Act) (w:World),b.size=L+1->b.getD L true=false->C w->wpAnyQ P md ops C Q fuel (b.setIfInBounds L true) a->wpAny P md ops Q' (fuel+1) b a w:=by
 have fin:∀(fuel:Nat) (b:Array Bool) (a:Act) (w:World),b.size=L+1->b.getD L true=false->C w->L∈Region.ready md ops b->(Region.ready md ops (b.setIfInBounds L true) = []->Q a)->wpOp P ops Q' L (wpAny P md ops Q' fuel (b.setIfInBounds L true)) a w:=by
  intro fuel b a w k f g D B;have z:∀j,j<L->b.getD j false=true:=λj n=>by
   obtain⟨_,J,m,h⟩:=mem_ready.1 D;rw[s]at m;cases m;have u:=List.all_eq_true.1 E j (List.mem_range.2 n);obtain⟨i,c,l⟩:=Array.any_eq_true.1 u;simp only[Bool.and_eq_true,beq_iff_eq]at l;have:=h _ (Array.getElem_mem c) l.2;rw[l.1]at this;exact this
  have p:Region.ready md ops (b.setIfInBounds L true) = []:=by
   cases H:Region.ready md ops (b.setIfInBounds L true) with
   |nil=>rfl
   |cons j r =>
    exfalso;have n:j∈Region.ready md ops (b.setIfInBounds L true):=(by rw[H];exact List.mem_cons_self);obtain⟨d,J,m,_⟩:=mem_ready.1 n;have N:=(Array.getElem?_eq_some_iff.1 m).1;by_cases e:j=L
    ·subst e;simp[Array.getD,k]at d
    have A:j<L:=(by omega);have:=z j A;have hjl':j<b.size:=(by omega);rw[getD_set_ne true (Ne.symm e)]at d;simp[Array.getD,hjl']at d this;rw[this]at d;cases d
  obtain⟨F,G⟩:=y a w g (B p);unfold wpOp;simp only[s,F,if_true];refine .inl (G _ (λq w' h=>?_));cases fuel with
  |zero=>exact⟨p,h⟩
  |succ fuel=>exact⟨λ_=>h,λi c=>by rw[p]at c;cases c⟩
 intro fuel;induction fuel with
 |zero =>
  intro b a w k f g h;refine⟨λd=>?_,λi c=>?_⟩
  ·have:=uff t b (by omega) d L (by omega);rw[f]at this;cases this
  by_cases e:i=L
  ·subst e;exact fin 0 b a w k f g c (λ_=>h.2)
  have:=ready_mono c e;rw[h.1]at this;cases this
 |succ fuel I =>
  intro b a w k f g h;refine⟨λd=>?_,λi c=>?_⟩
  ·have:=uff t b (by omega) d L (by omega);rw[f]at this;cases this
  by_cases e:i=L
  ·subst e;exact fin (fuel+1) b a w k f g c h.1
  have l:=h.2 i (ready_mono c e);refine wpOp_of_qOp g (λq w' v x=>I (b.setIfInBounds i true) q w' (by simpa using k) ?_ v ?_) l
  ·rw[getD_set_ne true e];exact f
  rw[Array.setIfInBounds_comm _ _ e];exact x
theorem unK{Q:Act->Prop}(g:Region.noSelect ops=true)(l:List Oper):∀(k:Nat) (d:Array Bool) (a:Act),(∀j,j<l.length->l[j]?=ops[k+j]?)->Region.lexFrom md ops l.length k d=true->wpQuiet P ops C Q l a->wpAnyQ P md ops C Q l.length d a:=by
 induction l with
 |nil=>exact λ_ _ _ _ b h=>⟨by simpa[Region.lexFrom] using b,h⟩
 |cons o l n =>
  intro k d a e b h;have c:ops[k]?=some o:=by have:=e 0 (by simp);simpa using this.symm
  simp only[List.length_cons,Region.lexFrom,Bool.and_eq_true]at b;have i:qOp P ops C k (wpQuiet P ops C Q l) a:=by
   unfold qOp;simp only[c];exact h
  obtain⟨v,m,f⟩:=yieldsIn_of_qOp c i;refine wpAnyQ_first c (Region.noSelect_spec g) l.length d a (Region.free_spec c b.1.2) (by simpa using b.1.1) m (n (k+1) _ _ (λj p=>?_) b.2 f);have:=e (j+1) (by simp;omega);rw[show k+1+j=k+(j+1) by omega,<-this];simp
theorem udQ{o:Oper}{l:List Oper}{id:Nat}{Q':Exit->Act->World->Prop}{a:Act}{w:World}(i:P.follows .mixedOrders=true)(k:uiY .any o l.length=true)(f:uka (l++[o]).toArray=true)
  (c:(Region.noSelect (l++[o]).toArray&&Region.lexFrom .any (l++[o]).toArray l.length 0 ((Array.replicate (l++[o]).toArray.size false).setIfInBounds l.length true))=true) (d:C w.drew)
  (h:wpQuiet P (l++[o]).toArray C (λb=>∀w',C w'->Region.wanted o (yielded (l++[o]).toArray b.tmps)=true/\∀K:Act->World->Prop,(∀a w,Q' .normal a w->K a w)->o.wp P b w' K Q') l a):(Code.region id (l++[o]).toArray true).wp P Q' a w:=by
 simp only[Bool.and_eq_true]at c;refine wp_region_any i ?_;have e:(l++[o]).toArray.size=l.length+1:=by simp
 rw[e];refine uiZ (C:=C) (o:=o) (L:=l.length) e (by simp) k f (Q:=λb=>∀w',C w'->Region.wanted o (yielded (l++[o]).toArray b.tmps)=true/\∀K:Act->World->Prop,(∀a w,Q' .normal a w->K a w)->o.wp P b w' K Q') (λa w d h=>h w d) _ _ _ _ (by simp) (by simp[Array.getD]) d ?_;have:=unK (C:=C) (md:=.any) c.1 l 0 ((Array.replicate (l++[o]).toArray.size false).setIfInBounds l.length true) a (λj g=>?_) c.2 h
 ·rw[e]at this;exact this
 rw[Nat.zero_add];simp[List.getElem?_append_left g]
end
theorem uhF{P:Program}{ι:Type}(F:ι->World){id:Nat}{Q':Exit->Act->World->Prop}{a:Act}{w}{l:List Oper}{o:Oper}(b:l.getLast? = some o)(k:P.follows .mixedOrders=true)(m:uiY .any o l.dropLast.length=true)(j:uka l.toArray=true)(g:(Region.noSelect l.toArray&&Region.lexFrom .any l.toArray l.dropLast.length 0 ((Array.replicate l.toArray.size false).setIfInBounds l.dropLast.length true))=true)(i:∃n,w.drew=F n)(h:wpQuiet P l.toArray (λw'=>∃n,w'=F n) (λc=>∀w',(∃n,w'=F n)->Region.wanted o (yielded l.toArray c.tmps)=true/\∀K:Act->World->Prop,(∀a w,Q' .normal a w->K a w)->o.wp P c w' K Q') l.dropLast a):(Code.region id l.toArray true).wp P Q' a w:=by
 have e:l.dropLast++[o]=l:=by
  have d:l≠[]:=by
   rintro rfl;simp at b
  rw[List.getLast?_eq_some_getLast d]at b;have:=List.dropLast_concat_getLast d;rw[Option.some.inj b]at this;exact this
 have f:=udQ (P:=P) (C:=λw'=>∃n,w'=F n) (o:=o) (l:=l.dropLast) (id:=id) (Q':=Q') (a:=a) (w:=w) k m;rw[e]at f;exact f j g i h
end
open Go.RowKit
open M (OpD ug Gr)
theorem un7 {X Y a c t}(h : ((X.alloc (.cells a t)).alloc (.cells c t)).drew = Y) : Box Y X.heap.size a /\ Box Y (X.heap.size + 1) c /\ Below X.heap.size X Y :=
  h ▸ ⟨((ux X a t).al _).on (Below.refl _ _).drew, (yG (X.alloc (.cells a t)) c t (X.heap.size + 1) (by simp)).on (Below.refl _ _).drew, (uP X _ _).drew⟩
theorem ur6 V mp sa nr sc j k oc mk o x y w(i : o.kind = 4)(z : OpnC w j k x)(A : OpnC w j (k + 6) y)(B : x.beg.OK)(C : y.beg.OK) :
    Calls Tryz.prog 113 #[.agg #[.int .i64 o.kind, .slice sa o.sl sc, .int .i64 o.arg], .slice (some ⟨j, k, none⟩) 2 oc, V, mp] w (qS (uT nr mk o x y) w) := by
  have s : Hid (uT nr mk o x y = ⟨x.nul && y.nul, if x.nul then x.beg.join y.beg else x.beg, x.loop || y.loop⟩) := by show _ = _; simp [uT, i, M.Names]
  rw [i]
  have R := ua z
  have S := ua A
  have T := ua B
  have U := ua C
  clear i B C z A
  obtain ⟨xn, xb, xl⟩ := x
  obtain ⟨yn, yb, yl⟩ := y
  cases xn <;> cases xl
  all_goals
    go_enter Tryz.func113, Tryz.ntmps113
    go_wp2
    generalize g : (w.alloc _).alloc _ = X
    have f : Hid (Below w.heap.size w X) := g ▸ uP w _ _
    have m := ua (g ▸ yG _ _ _ (w.heap.size + 1) (by simp) : Box X (w.heap.size + 1) #[.bool false, .int .u64 0, .int .u64 0, .int .u64 0, .int .u64 0, .bool false])
    clear g
    obtain ⟨l, D, E, F, G, H⟩ := R.out.later f.out
    obtain ⟨I, y1, y2, y3, y4, J⟩ := S.out.later f.out
    simp only at l D E F G H I y1 y2 y3 y4 J
    have Z := ud l
    go_region
  all_goals
    generalize u : World.drew _ = Y
    obtain ⟨c, d, b⟩ := un7 u
    have n := ua (uf f.out b)
    have L := ua c
    have N := ua d
    have O := ua (m.out.on b)
    obtain ⟨p, p', lp⟩ := c.x
    obtain ⟨q, q', lq⟩ := d.x
    obtain ⟨r, r', lr⟩ := (m.out.on b).x
    clear l D E F G H I y1 y2 y3 y4 J u c d b Z
    have aa : ¬ w.heap.size + 1 = Y.heap.size := by omega
    first
    | (go_wp2
       refine bodyPost_ret ?_ rfl ⟨rfl, ?_⟩
       · rw [s.out]; simp [results, Tryz.f113, go_sem, opv, *]
       · repeat with_reducible first | exact n.out | refine uK ?_ _ _ _ (by omega) | refine uf ?_ (ui _ _))
    | (go_wp2_with (go_at_call 114; refine (ufg xb yb _ T.out U.out).mono ?_; rintro e W ⟨⟨t, v, rfl⟩, h⟩; have P := ua v; have a := uf (ui Y _) h; have Q := ua (uf n.out a); obtain ⟨b0, b1, b2⟩ := ((ux Y _ _).on h).x; obtain ⟨p, p', lp⟩ := (L.out.on a).x; obtain ⟨q, q', lq⟩ := (N.out.on a).x; obtain ⟨r, r', lr⟩ := (O.out.on a).x; clear h a v)
       refine bodyPost_ret ?_ rfl ⟨rfl, ?_⟩
       · obtain rfl := P.out; rw [s.out]; simp [results, Tryz.f113, go_sem, opv, *]
       · repeat with_reducible first | exact Q.out | refine uK ?_ _ _ _ (by omega) | refine uf ?_ (ui _ _))
theorem ur7 gp mp sa nr sc v z oc mk o x y w(t : o.kind = 5)(J : OpnC w v z x)(L : OpnC w v (z + 6) y)(N : x.beg.OK)(O : y.beg.OK) :
    Calls Tryz.prog 113 #[.agg #[.int .i64 o.kind, .slice sa o.sl sc, .int .i64 o.arg], .slice (some ⟨v, z, none⟩) 2 oc, gp, mp] w (qS (uT nr mk o x y) w) := by
  have HK : Hid (uT nr mk o x y = ⟨x.nul || y.nul, x.beg.join y.beg, x.loop || y.loop⟩) := by show _ = _; simp [uT, t, M.Names]
  rw [t]
  have HX := ua J
  have HY := ua L
  have KX := ua N
  have KY := ua O
  clear t N O J L
  obtain ⟨xn, g, xl⟩ := x
  obtain ⟨yn, h, yl⟩ := y
  have I := fun W => ufg g h W KX.out KY.out
  cases xn <;> cases xl
  all_goals
    go_enter Tryz.func113, Tryz.ntmps113
    go_wp2
    generalize s : (w.alloc _).alloc _ = X
    have j : Hid (Below w.heap.size w X) := s ▸ uP w _ _
    have AX := ua (s ▸ yG _ _ _ (w.heap.size + 1) (by simp) : Box X (w.heap.size + 1) #[.bool false, .int .u64 0, .int .u64 0, .int .u64 0, .int .u64 0, .bool false])
    clear s
    obtain ⟨A, Q, R, S, T, U⟩ := HX.out.later j.out
    obtain ⟨Z, y1, y2, y3, y4, y5⟩ := HY.out.later j.out
    simp only at A Q R S T U Z y1 y2 y3 y4 y5
    have aa := ud A
    go_region
  all_goals
    generalize H : World.drew _ = Y
    obtain ⟨B, C, k⟩ := un7 H
    obtain ⟨ι, ab, F, f, l⟩ := uce Y
    have c1 := fun n => (B.on (f n)).x.1
    have c2 := fun n => (C.on (f n)).x.1
    have HB := ua (uf j.out k)
    have H3 := ua (AX.out.on k)
    have D : Hid (∃ n, Y.drew = F n) := l _ (Below.refl _ Y).drew
    have E := ua f
    have G := ua fun n => (I (F n)).mono (fun e W q => show e = .returned (.agg #[.int .u64 (g.join h).a, .int .u64 (g.join h).b, .int .u64 (g.join h).c, .int .u64 (g.join h).d]) /\ ∃ m, W = F m by
      obtain ⟨⟨u, rfl, rfl⟩, hb⟩ := q
      exact ⟨rfl, l W (uf (f n) hb)⟩)
    clear A Q R S T U Z y1 y2 y3 y4 y5 H B C k aa f l I
    go_wp2_with fail
    refine uhF F rfl (by kernel_rfl) (by kernel_rfl) (by kernel_rfl) (by kernel_rfl) D.out ?_
    simp only [List.dropLast]
    repeat (go_big_quiet_step (first | (go_at_call 114; exact G.out _)))
    refine wpQuiet_nil ?_
    rintro _ ⟨P, rfl⟩
    refine ⟨by simp [Region.wanted], fun K hK => ?_⟩
    obtain ⟨V, p⟩ := nm (F P)
    have i := p ▸ E.out P
    obtain ⟨r, r', lr⟩ := (H3.out.on i).x
    have HV := ua (uf HB.out i)
    rw [p]
    clear p D E G i c1 c2
    dsimp only [List.getLast]
    go_simp
    refine hK _ _ ?_
    go_wp2
    refine bodyPost_ret ?_ rfl ⟨rfl, ?_⟩
    · rw [HK.out]; simp [results, Tryz.f113, go_sem, opv, *]
    · repeat with_reducible first | exact HV.out | refine uK ?_ _ _ _ (by omega)
theorem uqc g i k nr l b d j mk o x w(a:o.kind=6)(h:OpnC w b d x) :
  Calls Tryz.prog 113 #[.agg #[.int .i64 o.kind,.slice k o.sl l,.int .i64 o.arg],.slice (some ⟨b,d,none⟩) 1 j,g,i] w (qS (uT nr mk o x default) w):=by
 have c:¬M.Names o:=by rintro (q|q)<;>omega
 have f:Hid (uT nr mk o x default=⟨true,x.beg,x.nul||x.loop⟩):=by show _=_;simp[uT,a,c]
 have u:(o.kind==0)=false:=by simp[a]
 have v:(o.kind==2)=false:=by simp[a]
 have y:(o.kind==3)=false:=by simp[a]
 have z:(o.kind==4)=false:=by simp[a]
 have A:(o.kind==5)=false:=by simp[a]
 have B:(o.kind==6)=true:=by simp[a]
 obtain⟨e,m,n,p,r,s⟩:=h;have C:b<w.heap.size:=ud e;clear a c;obtain⟨t,D,E⟩:=x;cases t;all_goals (
  simp only at e m n p r s;go_enter Tryz.func113,Tryz.ntmps113;go_wp2;go_region;go_wp2;refine bodyPost_ret (by simp[results,Tryz.f113,go_sem];rfl) rfl ?_;exact⟨by rw[f.out];exact uc1 rfl rfl rfl rfl rfl rfl,(uP w _ _).drew⟩)
theorem ur5 f h j nr k b d i mk o x w(a:o.kind=7)(g:OpnC w b d x) :
  Calls Tryz.prog 113 #[.agg #[.int .i64 o.kind,.slice j o.sl k,.int .i64 o.arg],.slice (some ⟨b,d,none⟩) 1 i,f,h] w (qS (uT nr mk o x default) w):=by
 have c:¬M.Names o:=by rintro (q|q)<;>omega
 have e:Hid (uT nr mk o x default=⟨true,x.beg,x.loop⟩):=by show _=_;simp[uT,a,c]
 have m:(o.kind==0)=false:=by simp[a]
 have n:(o.kind==2)=false:=by simp[a]
 have p:(o.kind==3)=false:=by simp[a]
 have r:(o.kind==4)=false:=by simp[a]
 have s:(o.kind==5)=false:=by simp[a]
 have t:(o.kind==6)=false:=by simp[a]
 have u:(o.kind==7)=true:=by simp[a]
 obtain⟨l,y,z,A,B,C⟩:=g;have v:b<w.heap.size:=ud l;clear a c;go_enter Tryz.func113,Tryz.ntmps113;go_wp2;go_region;go_wp2;refine bodyPost_ret (by simp[results,Tryz.f113,go_sem];rfl) rfl ?_;exact⟨by rw[e.out];exact uc1 rfl rfl rfl rfl rfl rfl,(uP w _ _).drew⟩
end Go.Proofs.YtimfigongapdnaaGreat
