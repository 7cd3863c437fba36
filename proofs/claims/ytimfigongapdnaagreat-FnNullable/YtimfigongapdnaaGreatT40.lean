import Derived.Deep.DeepCutAuto
import Derived.Test.YtimfigongapdnaaGreatT16
set_option linter.unusedVariables false
set_option linter.unusedSimpArgs false
set_option maxHeartbeats 40000000
set_option maxRecDepth 100000
namespace Go.Proofs.YtimfigongapdnaaGreat
open Go.RowKit
open M (OpD ug Gr b1 uM b1_size)
def ugT(s:ByteArray)(t:Tp)(R j:Nat)(w:World)(e:Ending)(w':World):Prop:=e=.returned (.string s)/\RdOn t R j w w'
theorem ucm(w:World)(q:Nat):Keep (fun _=>False) w (w.drewN q):=Keep.of_below (below_drewN (Below.refl w.heap.size w) q) (fun _ h _=>h)
theorem vK{w w':World}(h:Below w.heap.size w w'):Keep (fun _=>False) w w':=Keep.of_below h (fun _ h _=>h)
theorem Keep.cell'{w w':World}{R b o:Nat}{v:Value}(k:Keep (fun x=>x=R) w w')(hb:b≠R)(h:w.cell? ⟨b,o,none⟩=some v):w'.cell? ⟨b,o,none⟩=some v:=(World.cell?_of_block (a:=⟨b,o,none⟩) (k.block b (ud h) hb)).trans h
theorem Ints.keepR{Q:Nat->Prop}{k:IntKind}{w w':World}{R:Nat}{a:Option Addr}{n:Nat}{S:Nat->Int}(h:Ints Q k w a n S)(hk:Keep (fun x=>x=R) w w')(hR:∀b,Q b->b≠R):Ints Q k w' a n S:=by
 rcases h with e | ⟨b,o,e,hq,hc⟩
 ·exact .inl e
 ·exact .inr ⟨b,o,e,hq,fun i hi=>hk.cell' (hR b hq) (hc i hi)⟩
def gapT(k:Nat):ByteArray:=if k%12=0 then ⟨#[10]⟩ else if k%12=1 then ⟨#[32,35,32,120,32,61,32,34,10,9]⟩ else if k%12=2 then ⟨#[13,10,32]⟩ else ⟨#[32]⟩
theorem jp(k:Nat):(gapT k).size<=12:=by unfold gapT;split;decide;split;decide;split<;>decide
theorem ub2(t:Tp)(R i:Nat)(w:World)(h:RdA t R w i):Calls Tryz.prog 58 #[.pointer (some ⟨R,0,none⟩)] w (ugT (gapT (t.v i)) t R (t.n i) w):=by
 have hv:=t.v_le i;go_enter Tryz.func58,Tryz.ntmps58;go_wp2_with fail;refine (uw t R i w h).mono ?_;rintro e w1 ⟨rfl,hon⟩;generalize t.v i=k at *;have HG:=ua (gapT.eq_1 k);have HO:=ua hon;rcases (by omega:k%12=0\/k%12=1\/k%12=2\/2<k%12) with q | q | q | q
 all_goals (have HQ:=ua q;have q':(k:Int)%12=((k%12:Nat):Int):=by omega)
 all_goals simp only[q']
 all_goals (generalize k%12=m at *;go_wp2;go_ret;exact⟨by rw[HG.out];first|(simp[q];done)|(rw[if_neg (by omega),if_neg (by omega),if_neg (by omega)];rfl),HO⟩)
def hexU:ByteArray:=⟨#[48,49,50,51,52,53,54,55,56,57,65,66,67,68,69,70]⟩
def umo(q:Nat):ByteArray:=hexU.extract q (q+1)
def yM(b:Nat)(k:Nat):ByteArray:=if k%6=1 then ⟨#[92,120]⟩++umo (b / 16)++umo (b%16) else uM b
theorem yC(t:Tp)(R i b:Nat)(hb:b<=255)(w:World)(h:RdA t R w i):Calls Tryz.prog 136 #[.int .i64 (b:Int),.pointer (some ⟨R,0,none⟩)] w (ugT (yM b (t.v i)) t R (t.n i) w):=by
 have hv:=t.v_le i;go_enter Tryz.func136,Tryz.ntmps136;go_wp2_with fail;refine (uw t R i w h).mono ?_;rintro e w1 ⟨rfl,hon⟩;generalize t.v i=k at *;have HO:=ua hon;by_cases q:k%6=1
 ·have q':(k:Int)%6=1:=by omega
  have HG:Hid (yM b k=⟨#[92,120]⟩++umo (b / 16)++umo (b%16)):=if_pos q;go_wp2;go_quiet (fail);go_wp2;go_ret;exact⟨by rw[HG.out];rfl,HO.quiet (ucm _ _)⟩
 ·have q':¬(k:Int)%6=1:=by omega
  have HG:Hid (yM b k=uM b):=if_neg q;go_wp2_with fail;refine (uE b w1 (by omega)).mono ?_
  rintro e w2 ⟨rfl,hb2⟩;go_wp2;go_ret;exact⟨by rw[HG.out];rfl,HO.quiet (vK hb2)⟩
theorem yf(b k:Nat):(yM b k).size<=4:=by
 unfold yM;split
 ·simp only[ByteArray.size_append,umo,ByteArray.size_extract]
  have:(⟨#[92,120]⟩:ByteArray).size=2:=rfl;omega
 ·exact M.byteT_size b
def restS(t:Tp)(S:Nat->Int)(n i:Nat):Nat->ByteArray×Nat
 |0=>(ByteArray.empty,i)
 |k+1=>((restS t S n i k).1++yM (S (n-2-2*k)).toNat (t.v (restS t S n i k).2)++b1 45++uM (S (n-1-2*k)),t.n (restS t S n i k).2)
theorem jK(t:Tp)(S:Nat->Int)(n i:Nat):∀k,(restS t S n i k).1.size<=9*k
 |0=>Nat.le_refl _
 |k+1=>by
  have:=jK t S n i k;have h1:=yf (S (n-2-2*k)).toNat (t.v (restS t S n i k).2);have h2:=M.byteT_size (S (n-1-2*k));rw[restS];simp only[ByteArray.size_append,b1_size];omega
def rsI(t:Tp)(R:Nat)(S:Nat->Int)(n i:Nat)(w:World)(ov iv:Value)(wr:World):Prop :=
 ∃k:Nat,2*k+2<=n/\iv=.int .i64 ((n:Int)-2-2*k)/\ov=.string (restS t S n i k).1/\RdOn t R (restS t S n i k).2 w wr
theorem uem(t:Tp)(R i:Nat)(Q:Nat->Prop)(a:Option Addr)(n c:Nat)(S:Nat->Int)(hC:M.Canon n S)(h2:2<=n)(hR:∀b,Q b->b≠R)(w:World)(hS:Ints Q .i64 w a n S)(h:RdA t R w i) :
  Calls Tryz.prog 139 #[.slice a n c,.pointer (some ⟨R,0,none⟩)] w (ugT (restS t S n i ((n-2) / 2)).1 t R (restS t S n i ((n-2) / 2)).2 w):=by
 have hn:=M.canon_len hC;obtain⟨b,off,rfl,hq,hc⟩:∃b off,a=some ⟨b,off,none⟩/\Q b/\∀k,k<n->w.cell? ⟨b,off+k,none⟩=some (.int .i64 (S k)):=by
  rcases hS with e | e
  ·omega
  ·exact e
 have HC:=ua hc;have HCA:=ua hC;have HH:=ua h;have hbR:=hR b hq;go_enter Tryz.func139,Tryz.ntmps139;go_wp2;go_loopw [5,6] (fun ov iv wr=>rsI t R S n i w ov iv wr) (fun ov iv _=>(intOf iv).toNat)
 case atStart=>exact⟨0,by omega,by simp,rfl,RdOn.refl HH⟩
 case round =>
  obtain⟨k,hk,rfl,rfl,hon⟩:=hrel;have HO:=ua hon;have hsz:=jK t S n i k;have HR1:=ua (restS.eq_2 t S n i k);by_cases hlt:2*k+4<=n
  ·have hl1:(2:Int)<=(n:Int)-2-2*k:=by omega
   have hu:=HCA.2 (n-2-2*k) (by omega)
   have hv:=HCA.2 (n-1-2*k) (by omega)
   have c1:=HC (n-2-2*k) (by omega)
   have c2:=HC (n-1-2*k) (by omega)
   replace c1:=hon.2.cell' hbR c1;replace c2:=hon.2.cell' hbR c2;have lb:=ud c1;obtain⟨x,hx⟩:∃x:Nat,S (n-2-2*k)=(x:Int):=⟨(S (n-2-2*k)).toNat,by have:=hu.1;omega⟩
   obtain⟨y,hy⟩:=nm (S (n-1-2*k));have hxl:x<=255:=by have:=hu.2.1;omega
   have hyl:0<=y/\y<=255:=by rw[<-hy];exact⟨hv.1,hv.2.1⟩
   rw[hx]at c1;rw[hy]at c2;rw[hx,hy,Int.toNat_natCast]at HR1;obtain⟨p,hp⟩:=nm (restS t S n i k);rw[hp]at HO HR1 hsz;obtain⟨m,hm⟩:=nm (n-2-2*k);have e1:(n:Int)-2-2*k=(m:Int):=by omega
   have e2:n-1-2*k=m+1:=by omega
   rw[hm]at c1;rw[e2]at c2;have hml:(m:Int)<(n:Int):=by omega
   have hml2:(m:Int)+1<(n:Int):=by omega
   simp only[e1,hp]at hl1 ⊢;go_wp2_with fail;refine (yC t R p.2 x hxl wr HO.1).mono ?_;rintro e w2 ⟨rfl,hon2⟩;have HO2:=ua (HO.trans hon2);have hs2:=yf x (t.v p.2);replace c2:=hon2.2.cell' hbR c2;have lb2:=ud c2;generalize yM x (t.v p.2)=u at *;go_wp2_with fail;refine (uE y w2 hyl).mono ?_;rintro e w3 ⟨rfl,hb3⟩;have hs3:=M.byteT_size y;have HO3:=ua (HO2.quiet (vK hb3));generalize uM y=v at *;go_wp2;go_roundw
   case rel=>exact⟨k+1,by omega,by congr 1;omega,by rw[HR1.out];rfl,by rw[HR1.out];exact HO3⟩
   case measure=>simp[intOf];omega
  ·have hl1:¬(2:Int)<=(n:Int)-2-2*k:=by omega
   have hcan:=HCA.1;obtain rfl:(n-2) / 2=k:=by omega
   go_wp2;go_ret;exact⟨rfl,HO⟩
def ukN(n:Nat)(S:Nat->Int):List Int:=rg (fun b=>!yr n S b) 256
theorem ueL(n:Nat)(S:Nat->Int):M.Canon (ukN n S).length (lf (ukN n S)):=uos _
theorem uif{n:Nat}{S:Nat->Int}{a:Option Addr}{w:World}(h:ukp w a (fun b=>!yr n S b)):Calls Tryz.prog 138 #[.slice a 256 256] w (ucb (ukN n S) w):=jW a _ w h
def negT(n:Nat)(S:Nat->Int):ByteArray:=M.setT (ukN n S).length (lf (ukN n S))
theorem ump(n:Nat)(S:Nat->Int):0<(M.setT n S).size:=by
 unfold M.setT;split
 ·decide
 ·split<;>simp only[ByteArray.size_append,b1_size]<;>omega
def ujE(u:ByteArray):Bool:=if h:0<u.size then ((u[0].toNat:Int)==91) else false
def jL(t:Tp)(n:Nat)(S:Nat->Int)(i:Nat):ByteArray×Nat :=
 if n=2/\S 0=S 1/\t.v i%5<3 then (b1 34++yM (S 0).toNat (t.v (t.n i))++b1 34,t.n (t.n i))
 else if t.v i%5=3/\ujE (negT n S)=true then (⟨#[91,94]⟩++(negT n S).extract 1 (negT n S).size,t.n i)
 else if t.v i%5=4/\0<n then
  (b1 91++yM (S 0).toNat (t.v (t.n i))++b1 45++yM (S 1).toNat (t.v (t.n (t.n i)))++(restS t S n (t.n (t.n (t.n i))) ((n-2) / 2)).1++b1 93,(restS t S n (t.n (t.n (t.n i))) ((n-2) / 2)).2)
 else (M.setT n S,t.n i)
theorem udc(t:Tp)(R i:Nat)(Q:Nat->Prop)(a:Option Addr)(n c:Nat)(S:Nat->Int)(hC:M.Canon n S)(hR:∀b,Q b->b≠R)(w:World)(hS:Ints Q .i64 w a n S)(h:RdA t R w i) :
  Calls Tryz.prog 97 #[.slice a n c,.pointer (some ⟨R,0,none⟩)] w (ugT (jL t n S i).1 t R (jL t n S i).2 w):=by
 have hn:=M.canon_len hC;have hv:=t.v_le i;obtain⟨p,hp⟩:=nm (jL t n S i);have HP:=ua hp;unfold jL at hp;rw[HP.out];have HNE:=ua (negT.eq_1 n S);generalize negT n S=u0 at hp HNE;have HCA:=ua hC;have HR:=ua hR;have HS:=ua hS;go_enter Tryz.func97,Tryz.ntmps97;go_wp2_with fail;refine (uw t R i w h).mono ?_;rintro e w1 ⟨rfl,hon⟩;generalize t.v i=k at *;generalize t.n i=j at *;obtain⟨d,hd⟩:=nm (k%5);have hd':(k:Int)%5=(d:Int):=by omega
 have hdl:d<5:=by omega
 rw[hd]at hp;have HPP:=ua hp;have HO:=ua hon;have HS1:Hid (∀W,RdOn t R j w W->Ints Q .i64 W a n S):=fun W h=>hS.keepR h.2 hR
 obtain⟨one,ho⟩:=nm (decide (n=2/\S 0=S 1/\d<3));have HONE:=ua ho;clear hC hR hS h hp hon ho hd HP;go_upto_region 2 with fail
 simp only[hd'];go_cut [30] (fun v wc=>v=.bool one/\RdOn t R j w wc)
 case first =>
  by_cases q2:n=2
  ·have b2:((n:Int)==2)=true:=by simp[q2]
   have n0:(0:Int)<n:=by omega
   have n1:(1:Int)<n:=by omega
   have n2:0<n:=by omega
   have n3:1<n:=by omega
   rcases HS1.out w1 HO with q | ⟨b,off,rfl,hq,hc⟩
   ·omega
   have c0:World.cell? _ ⟨b,off,none⟩=_:=hc 0 (by omega)
   have c1:=hc 1 (by omega)
   have lb:=ud c0;have HQ2:=ua q2;clear hc q2;generalize S 0=u at *;generalize S 1=v at *;by_cases q3:u=v
   ·have b3:(u==v)=true:=by simp[q3]
    by_cases q4:d<3
    ·have b4:decide ((d:Int)<3)=true:=by simp;omega
     go_quiet (fail);go_wp2;go_meet;exact⟨by rw[<-HONE.out];simp[HQ2.out,q3,q4],HO.out.quiet (ucm _ _)⟩
    ·have b4:decide ((d:Int)<3)=false:=by simp;omega
     go_quiet (fail);go_wp2;go_meet;exact⟨by rw[<-HONE.out];simp[HQ2.out,q3,q4],HO.out.quiet (ucm _ _)⟩
   ·have b3:(u==v)=false:=by simp[q3]
    go_quiet (fail);go_wp2;go_meet;exact⟨by rw[<-HONE.out];simp[HQ2.out,q3],HO.quiet (ucm _ _)⟩
  ·have b2:((n:Int)==2)=false:=by simp;omega
   go_quiet (fail);go_wp2;go_meet;exact⟨by rw[<-HONE.out];simp[q2],HO.quiet (ucm _ _)⟩
 case rest =>
  obtain⟨rfl,hon⟩:=hcut;have hI:=HS1.out wc hon;replace HO:=ua hon;clear hon;cases one with
  |true =>
   obtain⟨rfl,hs,h3⟩:=of_decide_eq_true HONE.out;have HE:Hid (p=(b1 34++yM (S 0).toNat (t.v j)++b1 34,t.n j)):=by show _=_;rw[<-HPP.out];exact if_pos ⟨rfl,hs,h3⟩
   rcases hI with q | ⟨b,off,rfl,hq,hc⟩
   ·cases q
   have c0:World.cell? _ ⟨b,off,none⟩=_:=hc 0 (by omega)
   have hu:=HCA.out.2 0 (by omega)
   obtain⟨x,hx⟩:∃x:Nat,S 0=(x:Int):=⟨(S 0).toNat,by have:=hu.1;omega⟩
   have hxl:x<=255:=by have:=hu.2.1;omega
   rw[hx]at c0;rw[hx,Int.toNat_natCast]at HE;have lb:=ud c0;clear hc hu hx hs;go_wp2_with fail;refine (yC t R j x hxl wc HO.out.1).mono ?_;rintro e w2 ⟨rfl,hon2⟩;have HO2:=ua (HO.trans hon2);have hs2:=yf x (t.v j);generalize yM x (t.v j)=u at *;clear hon2;go_wp2;go_ret;exact⟨by rw[HE.out];rfl,by rw[HE.out];exact HO2⟩
  |false =>
   have h1:=of_decide_eq_false HONE;have HP2:=ua ((if_neg h1).symm.trans HPP);clear h1;have fin:∀(W:World),Hid (RdOn t R j w W)->Hid (Ints Q .i64 W a n S)->Hid (p=(M.setT n S,j))->Calls Tryz.prog 83 #[.slice a n c] W (fun e w'=>e=.returned (.string p.1)/\RdOn t R p.2 w w'):=fun W h1 h2 h3 =>
    (je Q a n c S W h2 HCA).mono (fun e w' q=>by rw[h3.out];exact⟨q.1,h1.quiet (vK q.2)⟩)
   have FIN:=ua fin;have HI:=ua hI;clear fin hI;by_cases q3:d=3
   ·have b3:((d:Int)==3)=true:=by simp[q3]
    have b4:((d:Int)==4)=false:=by simp[q3]
    have hmk:=run_make_row' (P:=Tryz.prog) 31 4 (.bool false) 1 Tryz.underlying31 uhQ rfl .i64 .i64 256 (by omega) (by omega)
    simp only[show ((256:Nat):Int)=256 from rfl]at hmk
    have HA:Hid (ujE u0=true->p=(⟨#[91,94]⟩++u0.extract 1 u0.size,j)):=fun hq=>HP2.symm.trans (if_pos ⟨q3,hq⟩)
    have HB:Hid (¬ujE u0=true->p=(M.setT n S,j)):=fun hq=>HP2.symm.trans ((if_neg (fun q=>hq q.2)).trans (if_neg (fun q=>by omega)))
    clear q3;go_wp2;go_loopw [7] (fun iv wr=>byI wc (fun b=>!yr n S b) iv wr) (fun iv _=>256-(intOf iv).toNat)
    case atStart=>exact⟨0,by omega,rfl,(World.rowIs_made wc _ 256 4).congr fun i _=>by simp[ucy],(Below.refl _ wc).alloc (Nat.le_refl _) _,by simp⟩
    case round =>
     obtain⟨m,hm,rfl,hrow,hbel,hsz⟩:=hrel;clear hmk;have HBE:=ua hbel;by_cases hlt:m<256
     ·have hlt':(m:Int)<256:=by omega
      have hc2:=hrow.cell hlt;have hf2:=hrow.frozen m;have HST:=ua (ud3 hrow);have HSZ:=ua hsz;clear hrow hbel hsz;go_wp2_with fail;refine (uau Q a n c S m _ (HI.later HBE) (by omega)).mono ?_
      rintro e W ⟨rfl,hW⟩;subst W;go_wp2;go_roundw
      case rel=>exact⟨m+1,by omega,by go_num,HST,uK HBE _ _ _ (Nat.le_refl _),by rw[uj];exact HSZ⟩
      case measure=>simp[intOf];omega
     ·obtain rfl:m=256:=by omega
      have HMB:Hid (ukp wr (some ⟨wc.heap.size,0,none⟩) (fun b=>!yr n S b)):=⟨wc.heap.size,rfl,fun i hi=>by rw[hrow.cell hi];simp[ucy,hi]⟩
      clear hrow hbel hsz;go_wp2_with fail;refine (uif HMB).mono ?_;rintro e W ⟨a2,c2,rfl,hO⟩;have HB2:=ua (uf HBE hO.bel);have HL:=ua (ukq hO);clear hO;have HCC:=ua (ueL n S);generalize ukN n S=l at *;go_wp2_with fail;refine (je _ a2 l.length c2 (lf l) W HL HCC).mono ?_;rintro e W3 ⟨rfl,h3⟩;rw[<-HNE.out];have HB3:=ua (uf HB2 h3);clear h3;have hsz:=M.setT_size HCC;have hps:=ump l.length (lf l);rw[<-HNE.out]at hsz hps;have hps':(0:Int)<(u0.size:Int):=by omega
      have hC:ujE u0=(((u0[0]'hps).toNat:Int)==91):=dif_pos hps;rw[hC]at HA HB;cases hb:(((u0[0]'hps).toNat:Int)==91) with
      |true =>
       have HE:=ua (HA hb);clear hC;go_wp2;go_ret;exact⟨by rw[HE.out];rfl,by rw[HE.out];exact HO.quiet (vK HB3)⟩
      |false =>
       have HE:=ua (HB (by rw[hb];simp))
       clear hC;go_wp2_with fail;refine (FIN W3 (HO.quiet (vK HB3)) (HI.later HB3) HE).mono ?_;rintro e w2 ⟨rfl,h2⟩;have HO2:=ua h2;clear h2;go_wp2;go_ret;exact⟨rfl,HO2⟩
   ·have b3:((d:Int)==3)=false:=by simp;omega
    have HP3:=ua ((if_neg (fun q=>q3 q.1)).symm.trans HP2)
    by_cases q4:d=4/\0<n
    ·obtain⟨q4,n0⟩:=q4
     have HE:=ua ((if_pos ⟨q4,n0⟩).symm.trans HP3);have b4:((d:Int)==4)=true:=by simp[q4]
     have n1:1<n:=by have:=HCA.1;omega
     have n0':(0:Int)<n:=by omega
     have n1':(1:Int)<n:=by omega
     have dn:decide ((n:Int) > 0)=true:=by simp;omega
     have dn':decide ((0:Int)<n)=true:=by simp;omega
     rcases HI.out with q | ⟨b,off,rfl,hq,hc⟩
     ·omega
     have c0:World.cell? _ ⟨b,off,none⟩=_:=hc 0 (by omega)
     have c1:=hc 1 (by omega)
     have hu:=HCA.out.2 0 (by omega)
     have hw:=HCA.out.2 1 (by omega)
     obtain⟨x,hx⟩:∃x:Nat,S 0=(x:Int):=⟨(S 0).toNat,by have:=hu.1;omega⟩
     obtain⟨y,hy⟩:∃y:Nat,S 1=(y:Int):=⟨(S 1).toNat,by have:=hw.1;omega⟩
     have hxl:x<=255:=by have:=hu.2.1;omega
     have hyl:y<=255:=by have:=hw.2.1;omega
     rw[hx]at c0;rw[hy]at c1;rw[hx,hy,Int.toNat_natCast,Int.toNat_natCast]at HE;have lb:=ud c0;have hbR:=HR.out b hq;clear hc hu hw hx hy q3 q4 hq;go_wp2_with fail;refine (yC t R j x hxl wc HO.out.1).mono ?_;rintro e w2 ⟨rfl,h2⟩;replace HO:=ua (HO.trans h2);replace c1:=h2.2.cell' hbR c1;replace HI:=ua (HI.keepR h2.2 HR);have lb2:=ud c1;have hs2:=yf x (t.v j);generalize yM x (t.v j)=u at *;clear h2;go_wp2_with fail;refine (yC t R _ y hyl w2 HO.1).mono ?_;rintro e w3 ⟨rfl,h3⟩;replace HO:=ua (HO.trans h3);replace HI:=ua (HI.keepR h3.2 HR);have hs3:=yf y (t.v (t.n j));generalize yM y (t.v (t.n j))=v at *;clear h3;go_wp2_with fail;refine (uem t R _ Q _ n c S HCA (by omega) HR w3 HI HO.1).mono ?_
     rintro e w4 ⟨rfl,h4⟩;replace HO:=ua (HO.trans h4);have hs4:=jK t S n (t.n (t.n j)) ((n-2) / 2);generalize restS t S n (t.n (t.n j)) ((n-2) / 2)=r at *;clear h4;go_wp2;go_ret;exact⟨by rw[<-HE.out];rfl,by rw[<-HE.out];exact HO⟩
    ·have HE:=ua ((if_neg q4).symm.trans HP3).symm
     by_cases e4:d=4
     ·have b4:((d:Int)==4)=true:=by simp[e4]
      have n0:n=0:=by omega
      have dn:decide ((n:Int) > 0)=false:=by simp;omega
      have nz:¬0<n:=by omega
      have nz':¬(0:Int)<n:=by omega
      clear q4 e4 n0 dn;go_wp2_with fail;refine (FIN wc HO HI HE).mono ?_;rintro e w2 ⟨rfl,h2⟩;have HO2:=ua h2;clear h2;go_wp2;go_ret;exact⟨rfl,HO2⟩
     ·have b4:((d:Int)==4)=false:=by simp;omega
      clear q4 e4;go_wp2_with fail;refine (FIN wc HO HI HE).mono ?_;rintro e w2 ⟨rfl,h2⟩;have HO2:=ua h2;clear h2;go_wp2;go_ret;exact⟨rfl,HO2⟩
theorem ufv{ops:Array Oper}{rest:List Oper}{o:Oper}{a:Act}{P':Exit->Act->World->Prop}{w0 W:World}(hgd:o.guard=none)(s x:Operand)(ho:o.op=.call { callee:=.builtin .append,args:=#[s,x],argTypes:=#[22,22] }){z:List Int}{v:Value}{y:Int}
  (hs:a.eval s=v) (hx:a.eval x=.slice (some ⟨W.heap.size,0,none⟩) 1 1) (hB:BufI .u8 w0 z v W) (hl:z.length<=16000000) (h:∀a' c' W5,Hid (BufI .u8 w0 (z++[y]) (.slice a' (z.length+1) c') W5)->wpList Tryz.prog ops P' rest (a.put o.dst (.slice a' (z.length+1) c')) W5) :
  wpList Tryz.prog ops P' (o::rest) a (W.alloc (.cells #[.int .u8 y] 5)):=by
 refine uaL hgd s x 22 22 ho hs hx qw (hB.1.on (fun b hb=>Below.heap_alloc _ _ _ hb.2)) (ufZ W y) (by omega) ?_
 intro v5 W5 hown hgrew hsz;have h5:=BufI.snoc hB.2 (Keep.alloc _ _ _) hown hgrew;obtain⟨a',c',rfl⟩:=h5.shape;rw[List.length_append,List.length_singleton]at h5 ⊢;exact h a' c' W5 h5
def bL(t:ByteArray):List Int:=t.data.toList.map (fun b=>(b.toNat:Int))
theorem uie(t:ByteArray):(bL t).length=t.size:=by simp[bL]
theorem uad(k:IntKind)(z:List Int):uS k (lf z) z.length=z.map (Value.int k):=by
 refine List.ext_getElem? fun i=>?_
 unfold uS;by_cases h:i<z.length
 ·simp[lf,h]
 ·simp[h]
theorem usG(t:ByteArray):byteCells t=(bL t).map (Value.int .u8):=by simp[byteCells,bL]
theorem usH{ops:Array Oper}{rest:List Oper}{o:Oper}{a:Act}{P':Exit->Act->World->Prop}{w0 W:World}(hgd:o.guard=none)(s x:Operand)(ho:o.op=.call { callee:=.builtin .append,args:=#[s,x],argTypes:=#[22,9] }){z:List Int}{v:Value}{t:ByteArray}
  (hs:a.eval s=v) (hx:a.eval x=.string t) (hB:BufI .u8 w0 z v W) (ht:0<t.size) (hl:z.length+t.size<=16000000) (h:∀a' c' W5,Hid (BufI .u8 w0 (z++bL t) (.slice a' (z.length+t.size) c') W5)->wpList Tryz.prog ops P' rest (a.put o.dst (.slice a' (z.length+t.size) c')) W5) :
  wpList Tryz.prog ops P' (o::rest) a W:=by
 refine uaL hgd s x 22 9 ho hs hx qw hB.1 (Src.ofString W Tryz.underlying9 t) (by omega) ?_
 intro v5 W5 hown hgrew hsz;have hlen:(z++bL t).length=z.length+t.size:=by rw[List.length_append,uie]
 have hb:=hB.2.size;have h5:BufI .u8 w0 (z++bL t) v5 W5:=by
  refine⟨?_,ye hB.2 hgrew (fun b q=>q.1)⟩
  rw[uad,hlen,List.map_append,<-uad,<-usG];rcases hown with⟨e1,e2,e3⟩|⟨b,cap,e,hq,k3,k4,k5,k6⟩
  ·exact .inl ⟨e1,e2,e3⟩
  ·refine .inr ⟨b,cap,e,⟨hq.elim (fun q=>q.1) (fun q=>by omega),?_⟩,k3,k4,k5,k6⟩
   obtain⟨u,hu⟩:=Option.isSome_iff_exists.1 (k6 0 (by omega)).1
   exact ud hu
 obtain⟨a',c',rfl⟩:=h5.shape;rw[hlen]at h5 ⊢;exact h a' c' W5 h5
def uq8(z:List Int)(w:World)(e:Ending)(w':World):Prop:=∃a c,e=.returned (.slice a z.length c)/\BufI .u8 w z (.slice a z.length c) w'
def fiI(c:Int)(n:Nat)(w:World)(ov iv:Value)(wr:World):Prop:=∃k:Nat,k<=n/\iv=.int .i64 (k:Int)/\BufI .u8 w (List.replicate k c) ov wr
theorem uaO(c:Int)(n:Nat)(hn:n<=100000)(w:World):Calls Tryz.prog 12 #[.int .u8 c,.int .i64 (n:Int)] w (uq8 (List.replicate n c) w):=by
 go_enter Tryz.func12,Tryz.ntmps12;go_wp2;go_loopw [5,6] (fun ov iv wr=>fiI c n w ov iv wr) (fun ov iv _=>n-(intOf iv).toNat)
 case atStart=>exact⟨0,Nat.zero_le _,rfl,BufI.nil (Keep.refl _ _)⟩
 case round =>
  obtain⟨k,hk,rfl,hb⟩:=hrel;obtain⟨a,cp,rfl⟩:=hb.shape;have HB:=ua hb;rw[List.length_replicate]at *;by_cases hlt:k<n
  ·have hlt':(k:Int)<(n:Int):=by omega
   go_wp2_with (at_builtin;refine ufv rfl _ _ rfl rfl rfl HB.out (by simp;omega) ?_;intro Xa Xc W5 HS)
   go_roundw
   case rel=>exact⟨k+1,by omega,by go_num,by rw[List.replicate_succ'];have:=HS.out;rw[List.length_replicate]at this;exact this⟩
   case measure=>simp[intOf];omega
  ·obtain rfl:k=n:=by omega
   go_wp2;go_ret;exact⟨a,cp,by simp,by simpa using HB.out⟩
def ufw(s:ByteArray)(m:Nat):Int:=if h:m<s.size then (s[m].toNat:Int) else 0
theorem ufx{s:ByteArray}{m:Nat}(h:m<s.size):ufw s m=(s[m].toNat:Int):=dif_pos h
theorem ufy(s:ByteArray)(m:Nat):0<=ufw s m/\ufw s m<=255:=by
 unfold ufw;split
 ·have:=UInt8.toNat_lt s[m];omega
 ·omega
def ukL(z:List Int)(t:Tp)(R j:Nat)(w:World)(e:Ending)(w':World):Prop:=∃a c,e=.returned (.slice a z.length c)/\Ints (New w w') .u8 w' a z.length (lf z)/\z.length<=c/\RdOn t R j w w'
theorem ufz{z:List Int}{t:Tp}{R j:Nat}{w w1 w':World}{a:Option Addr}{c:Nat}(h1:RdOn t R j w w1)(h2:BufI .u8 w1 z (.slice a z.length c) w'):ukL z t R j w (.returned (.slice a z.length c)) w' :=
 ⟨a,c,rfl,h2.ints.wide (fun b q=>⟨Nat.le_trans h1.2.size q.1,q.2⟩),xA h2.1,h1.quiet h2.2⟩
def mutL(k at_:Nat)(c:Int)(S:Nat->Int):Nat->List Int
 |0=>[]
 |m+1=>mutL k at_ c S m++(if m=at_ then (if k=0 then [] else if k=2 then [c] else [c,S m]) else [S m])
theorem udb(k at_:Nat)(c:Int)(S:Nat->Int):∀m,(mutL k at_ c S m).length<=2*m
 |0=>Nat.le_refl _
 |m+1=>by
  have:=udb k at_ c S m;rw[mutL,List.length_append];have:(if m=at_ then (if k=0 then [] else if k=2 then [c] else [c,S m]) else [S m]).length<=2:=by split;split;simp;split<;>simp;simp
  omega
def soup2:ByteArray:=⟨#[61,59,47,33,38,42,63,40,41,46,94,34,91,93,92,45,35,97,98,49,32,10]⟩
def ujC(t:Tp)(i n:Nat):Nat:=if n=0 then 0 else (t.v (t.n i)*256+1+t.v (t.n (t.n i)))%n
def umm(t:Tp)(i n:Nat)(S:Nat->Int):List Int :=
 mutL (t.v i%5) (ujC t i n) (ufw soup2 (t.v (t.n (t.n (t.n i)))%22)) S (if t.v i%5=1/\ujC t i n<n then ujC t i n else n)
def muI(k at_:Nat)(c:Int)(n:Nat)(S:Nat->Int)(w:World)(ov iv:Value)(wr:World):Prop:=∃m:Nat,m<=n/\(k=1->at_<n->m<=at_)/\iv=.int .i64 (m:Int)/\BufI .u8 w (mutL k at_ c S m) ov wr
theorem ufA(t:Tp)(R i:Nat)(Q:Nat->Prop)(a:Option Addr)(n cp:Nat)(S:Nat->Int)(hn:n<=5000000)(hR:∀b,Q b->b≠R)(w:World)(hS:Ints Q .u8 w a n S)(h:RdA t R w i) :
  Calls Tryz.prog 50 #[.slice a n cp,.pointer (some ⟨R,0,none⟩)] w (ukL (umm t i n S) t R (t.n (t.n (t.n (t.n i)))) w):=by
 have v1:=t.v_le i;have v2:=t.v_le (t.n i);have v3:=t.v_le (t.n (t.n i));have v4:=t.v_le (t.n (t.n (t.n i)));obtain⟨z,hz⟩:=nm (umm t i n S);have HZ:=ua hz;unfold umm ujC at hz;rw[HZ.out];have HS:=ua hS;have HR:=ua hR;clear hS hR;go_enter Tryz.func50,Tryz.ntmps50;go_wp2_with fail;refine (uw t R i w h).mono ?_;rintro e w1 ⟨rfl,h1⟩;go_wp2_with fail;refine (uw t R _ w1 h1.1).mono ?_;rintro e w2 ⟨rfl,h2⟩;go_wp2_with fail;refine (uw t R _ w2 h2.1).mono ?_;rintro e w3 ⟨rfl,h3⟩;go_wp2_with fail;refine (uw t R _ w3 h3.1).mono ?_;rintro e w4 ⟨rfl,h4⟩;have HO:=ua (((h1.trans h2).trans h3).trans h4);have HS4:=ua (HS.keepR HO.2 HR);clear h h1 h2 h3 h4 HZ;generalize t.v i=k0 at *;generalize t.v (t.n i)=k1 at *;generalize t.v (t.n (t.n i))=k2 at *;generalize t.v (t.n (t.n (t.n i)))=k3 at *;obtain⟨k,hk⟩:=nm (k0%5);have hk':(k0:Int)%5=(k:Int):=by omega
 obtain⟨m3,hm⟩:=nm (k3%22);have hm':(k3:Int)%22=(m3:Int):=by omega
 rw[hk,hm]at hz;have hsz:m3<soup2.size:=by show m3<22;omega
 rw[ufx hsz]at hz;have e22:soup2.size=22:=rfl;rw[show (({ data:=#[61,59,47,33,38,42,63,40,41,46,94,34,91,93,92,45,35,97,98,49,32,10] }:ByteArray))=soup2 from rfl]
 go_upto_if 32 with fail
 generalize (soup2[m3]'hsz).toNat=cc at *;obtain⟨at_,hat⟩:=nm (if n=0 then 0 else (k1*256+1+k2)%n)
 rw[hat]at hz;have HZ:=ua hz;clear hz;go_cut [9] (fun v wc=>v=.int .i64 (at_:Int)/\wc=w4)
 case first =>
  by_cases h0:n=0
  ·have h0':¬0<n:=by omega
   rw[if_pos h0]at hat;subst hat;go_wp2;go_meet;exact⟨rfl,rfl⟩
  ·have h0':0<n:=by omega
   rw[if_neg h0]at hat;have e1:((k1:Int)*256+1+k2)%(n:Int)=(at_:Int):=by rw[<-hat];norm_cast
   have hz:¬(n:Int)=0:=by omega
   go_wp2;go_meet;exact⟨by rw[<-e1],rfl⟩
 case rest =>
  obtain⟨rfl,hw⟩:=hcut;subst hw;clear hat hm' hm e22 hsz hk hk';go_wp2;go_loopw [10,11] (fun ov iv wr=>muI k at_ cc n S wc ov iv wr) (fun ov iv _=>n-(intOf iv).toNat)
  case atStart=>exact⟨0,Nat.zero_le _,fun _ _=>Nat.zero_le _,rfl,BufI.nil (Keep.refl _ _)⟩
  case round =>
   obtain⟨m,hmn,hst,rfl,hb⟩:=hrel;have HB:=ua hb;obtain⟨oa,oc,rfl⟩:=hb.shape;have hl:=udb k at_ cc S m;have hM:=mutL.eq_2 k at_ cc S m;have HMM:Hid (∀j,m=j->mutL k at_ cc S m=mutL k at_ cc S j):=fun j e=>by rw[e]
   generalize mutL k at_ cc S m=L at *;by_cases hlt:m<n
   ·have hlt':(m:Int)<(n:Int):=by omega
    rcases HS4.out with q | ⟨b,off,rfl,hq,hc⟩
    ·omega
    have c0:=hc m hlt;have HCW:=ua c0;replace c0:=ue c0 hb.2.bel;have lb:=ud c0;clear hc hb;by_cases ha:m=at_
    ·have b1:((m:Int)==(at_:Int))=true:=by simp[ha]
     rw[if_pos ha]at hM;by_cases q0:k=0
     ·have b2:((k:Int)==0)=true:=by simp[q0]
      rw[if_pos q0,List.append_nil]at hM;have HM:=ua hM;have HQ:Hid (¬k=1):=by show ¬_;omega
      clear ha q0 hM hst;go_wp2;go_roundw
      case rel=>exact⟨m+1,by omega,fun q=>absurd q HQ,by go_num,by rw[HM.out];exact HB⟩
      case measure=>simp[intOf];omega
     ·have b2:((k:Int)==0)=false:=by simp;omega
      rw[if_neg q0]at hM;by_cases q1:k=1
      ·have b3:((k:Int)==1)=true:=by simp[q1]
       have HE:Hid (L=z):=by show _=_;rw[<-HZ.out,if_pos ⟨q1,by omega⟩];exact HMM _ ha
       clear ha q0 q1 hM hst;go_wp2;go_ret;exact HE.out▸ufz HO.out HB
      ·have b3:((k:Int)==1)=false:=by simp;omega
       have HQ:=ua q1;by_cases q2:k=2
       ·have b4:((k:Int)==2)=true:=by simp[q2]
        rw[if_pos q2]at hM;have HM:=ua hM;clear ha q0 q1 q2 hM hst;go_wp2_with (at_builtin;refine ufv rfl _ _ rfl rfl rfl HB.out (by omega) ?_;intro Xa Xc W5 X)
        go_roundw
        case rel=>exact⟨m+1,by omega,fun q=>absurd q HQ.out,by go_num,by rw[HM.out];exact X.out⟩
        case measure=>simp[intOf];omega
       ·have b4:((k:Int)==2)=false:=by simp;omega
        rw[if_neg q2]at hM;have HM:Hid (mutL k at_ cc S (m+1)=L++[(cc:Int)]++[S m]):=by show _=_;rw[List.append_assoc];exact hM
        clear ha q0 q1 q2 hM hst;go_upto_if 65 with (at_builtin;refine ufv rfl _ _ rfl rfl rfl HB.out (by omega) ?_;intro Xa Xc W5 X;have c5:=ue HCW X.2.bel;have l5:=ud c5)
        have hX:(L++[(cc:Int)]).length=L.length+1:=by simp
        go_wp2_with (at_builtin;refine ufv rfl _ _ rfl rfl rfl X.out (by omega) ?_;intro Ya Yc W6 Y)
        go_roundw
        case rel=>exact⟨m+1,by omega,fun q=>absurd q HQ.out,by go_num,by rw[HM.out];have:=Y.out;rw[hX]at this;exact this⟩
        case measure=>simp[intOf];omega
    ·have b1:((m:Int)==(at_:Int))=false:=by simp;omega
     rw[if_neg ha]at hM;have HM:=ua hM;have HST:=ua hst;have HA:=ua ha;clear ha hM hst;go_wp2_with (at_builtin;refine ufv rfl _ _ rfl rfl rfl HB.out (by omega) ?_;intro Xa Xc W5 X)
     go_roundw
     case rel=>exact⟨m+1,by omega,fun q1 q2=>by have:=HST.out q1 q2;have:=HA.out;omega,by go_num,by rw[HM.out];exact X.out⟩
     case measure=>simp[intOf];omega
   ·obtain rfl:m=n:=by omega
    have HE:Hid (L=z):=by show _=_;rw[<-HZ.out,if_neg (fun q=>by have:=hst q.1 q.2;omega)];exact HMM _ rfl
    clear hb hM hst;go_wp2;go_ret;exact HE.out▸ufz HO HB
end Go.Proofs.YtimfigongapdnaaGreat
