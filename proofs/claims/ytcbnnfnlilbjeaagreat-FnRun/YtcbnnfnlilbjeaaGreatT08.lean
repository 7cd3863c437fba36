import Derived.Test.YtcbnnfnlilbjeaaGreatT07
set_option linter.unusedVariables false
set_option linter.unusedSimpArgs false
namespace Go.Proofs.YtcbnnfnlilbjeaaGreat
section
open Go.RowKit
open M (OpD NodeD Gr InsD)
def rg(M:Nat→Bool):Nat→List Int
 |0=>[]
 |b+1=>rg M b++((if M b&&(b==0||!M (b-1)) then [(b:Int)] else [])++(if M b&&(b==255||!M (b+1)) then [(b:Int)] else []))
theorem rg_succ(M:Nat→Bool)(b:Nat):rg M (b+1)=rg M b++((if M b&&(b==0||!M (b-1)) then [(b:Int)] else [])++(if M b&&(b==255||!M (b+1)) then [(b:Int)] else [])):=rfl
theorem rg_len(M:Nat→Bool)(b:Nat):(rg M b).length≤2*b:=by
 induction b with
 |zero=>exact Nat.le_refl _
 |succ b ih =>
  rw[rg,List.length_append,List.length_append];have:∀(c:Bool),(if c then [(b:Int)] else []).length≤1:=fun c=>by cases c<;>simp
  have h1:=this (M b&&(b==0||!M (b-1)));have h2:=this (M b&&(b==255||!M (b+1)));omega
def intsV(fl:List Int):List Value:=fl.map (fun z=>.int .i64 z)
def OwnL(w0 w:World)(v:Value)(l:List Int):Prop:=∃P,OwnC P w v 1 l.length (intsV l)∧(∀b,P b→w0.heap.size≤b∧b<w.heap.size)∧Below w0.heap.size w0 w
theorem OwnL.bel{w0 w:World}{v:Value}{l:List Int}(h:OwnL w0 w v l):Below w0.heap.size w0 w:=let ⟨_,_,_,h⟩:=h;h
theorem OwnL.nil{w0 w:World}(h:Below w0.heap.size w0 w):OwnL w0 w (.slice none 0 0) []:=⟨fun _=>False,.inl ⟨rfl,rfl,rfl⟩,fun b q=>q.elim,h⟩
theorem OwnL.shape{w0 w:World}{v:Value}{l:List Int}(h:OwnL w0 w v l):∃a c,v=.slice a l.length c:=by
 obtain⟨P,h,_⟩:=h;exact own_shape h
theorem list_run{w0 w1:World}{v:Value}{l:List Int}(z:Int)(ty:TypeId)(h:OwnL w0 w1 v l)(hl:l.length≤4096) :
  ∃v' w',(Builtin.append_ #[33,33] ty #[v,.slice (some ⟨w1.heap.size,0,none⟩) 1 1]).run Tryz.prog (w1.alloc (.cells #[.int .i64 z] 3))=.ok v' w'∧OwnL w0 w' v' (l++[z]):=by
 obtain⟨P,ho,hp,hb⟩:=h;have b1:=bel1 w1 (.cells #[.int .i64 z] 3);have hs:Src Tryz.prog 1 33 (.slice (some ⟨w1.heap.size,0,none⟩) 1 1) 1 [.int .i64 z] (w1.alloc (.cells #[.int .i64 z] 3)):=by
  refine Src.ofSlice (P:=Tryz.prog) _ Tryz.underlying33 ⟨w1.heap.size,0,none⟩ 1 1 [.int .i64 z] rfl (fun j u hu=>?_) (fun u hu=>?_)
  ·match j,hu with
   |0,hu=>simpa[Addr.add] using (cN w1.heap.size rfl hu:(w1.alloc (.cells #[.int .i64 z] 3)).cell? ⟨w1.heap.size,0,none⟩=some u)
   |j+1,hu=>simp at hu
  ·simp at hu;subst hu;rfl
 obtain⟨v',w',hr,k1,k2,k3⟩:=appC_run' ty elem33 (ho.on (fun b hb=>b1.block b (hp b hb).2)) hs (by omega) (fun _=>Nat.one_pos)
 refine⟨v',w',hr,fun b=>(P b∨(w1.alloc (.cells #[.int .i64 z] 3)).heap.size≤b)∧b<w'.heap.size,?_,?_,?_⟩
 ·have e:intsV (l++[z])=intsV l++[.int .i64 z]:=by simp[intsV]
  rw[e,List.length_append,List.length_singleton];rcases k1 with q | ⟨g,cap,e,hq,h3,h4,h5,h6⟩
  ·exact .inl q
  ·refine .inr ⟨g,cap,e,⟨hq,?_⟩,h3,h4,h5,h6⟩
   obtain⟨u,hu⟩:=Option.isSome_iff_exists.1 (h6 0 (by omega)).1
   exact lt_of_cell hu
 ·rintro b ⟨q | q,hlt⟩
  ·exact⟨(hp b q).1,hlt⟩
  ·have:=hb.size
   have:=b1.size;exact⟨by omega,hlt⟩
 ·have hs0:=hb.size
  have hs1:=b1.size;exact⟨k2.os.trans (b1.os.trans hb.os),k2.tape.trans (b1.tape.trans hb.tape),k2.output.trans (b1.output.trans hb.output),by have:=k2.size;omega,fun b hbb=>(k2.block b (by omega) (fun q=>by have:=(hp b q).1;omega)).trans ((b1.block b (by omega)).trans (hb.block b hbb))⟩
theorem listA{ops:Array Oper}{rest:List Oper}{o:Oper}{a:Act}{P':Exit→Act→World→Prop}(hgd:o.guard=none)(s x:Operand)(ho:o.op=.call { callee:=.builtin .append,args:=#[s,x],argTypes:=#[33,33] })
  {w0 w1:World} {v:Value} {l:List Int} {z:Int} (hs:a.eval s=v) (hx:a.eval x=.slice (some ⟨w1.heap.size,0,none⟩) 1 1) (h:OwnL w0 w1 v l) (hl:l.length≤4096)
  (k:∀w' l' n' a' c',Hid (l'=l++[z])→Hid (n'=l'.length)→Hid (OwnL w0 w' (.slice a' n' c') l')→wpList Tryz.prog ops P' rest (a.put o.dst (.slice a' n' c')) w'):wpList Tryz.prog ops P' (o::rest) a (w1.alloc (.cells #[.int .i64 z] 3)):=by
 refine wpList_plain hgd fun K hK=>?_
 obtain⟨v',w',hr,hR⟩:=list_run z o.type h hl;obtain⟨a',c',rfl⟩:=hR.shape;unfold Oper.wp execOp;simp only[ho,resolve,invoke,builtin,Sem.run_bind,Sem.run_pure,Result.andThen_ok,List.map_toArray,List.map_cons,List.map_nil,hs,hx,hr];exact hK _ _ (k w' (l++[z]) _ a' c' rfl rfl hR)
def Bools(w:World)(a:Option Addr)(M:Nat→Bool):Prop:=∃b,a=some ⟨b,0,none⟩∧∀i,i<256→w.cell? ⟨b,i,none⟩=some (.bool (M i))
def GivesL(l:List Int)(w:World)(e:Ending)(w':World):Prop:=∃a c,e=.returned (.slice a l.length c)∧OwnL w w' (.slice a l.length c) l
def rgI(w:World)(M:Nat→Bool)(ov iv:Value)(wr:World):Prop:=∃k:Nat,k≤256∧iv=.int .i64 (k:Int)∧OwnL w wr ov (rg M k)
set_option maxRecDepth 100000 in
set_option maxHeartbeats 8000000 in
theorem l2ranges_any(a:Option Addr)(M:Nat→Bool)(w:World)(hM:Bools w a M):Calls Tryz.prog 95 #[.slice a 256 256] w (GivesL (rg M 256) w):=by
 obtain⟨b,rfl,hc⟩:=hM;have HC:Hid (∀i,i<256→w.cell? ⟨b,i,none⟩=some (.bool (M i))):=hc;have lb:=lt_of_cell (hc 0 (by omega))
 clear hc;go_enter Tryz.func95,Tryz.ntmps95;go_wp2;go_loopw [3,4] (fun ov iv wr=>rgI w M ov iv wr) (fun ov iv _=>256-(intOf iv).toNat)
 case atStart=>exact⟨0,by omega,rfl,OwnL.nil (Below.refl _ _)⟩
 case round =>
  obtain⟨k,hk,rfl,hO⟩:=hrel;obtain⟨oa,oc,rfl⟩:=hO.shape;have hln:=rg_len M k;obtain⟨on,hon⟩:∃on,(rg M k).length=on:=⟨_,rfl⟩;rw[hon]at hO hln ⊢;have HO:Hid (OwnL w wr (.slice oa on oc) (rg M k)):=hO;have HON:Hid ((rg M k).length=on):=hon;have HCW:Hid (∀W i,Below w.heap.size w W→i<256→W.cell? ⟨b,i,none⟩=some (.bool (M i))):=fun W i hb hi=>cell_on (HC.out i hi) hb
  clear hO hon;by_cases hlt:k<256
  ·have hlt':(k:Int)<256:=by omega
   have lbw:b<wr.heap.size:=Nat.lt_of_lt_of_le lb HO.out.bel.size;rcases Nat.eq_zero_or_pos k with h0 | h0
   ·subst h0
    have c0:=HCW.out wr (0) HO.out.bel (by omega)
    have cn:=HCW.out wr (1) HO.out.bel (by omega)
    cases hM:M (0) with
    |false =>
     rw[hM]at c0;have HR:Hid (rg M (0+1)=rg M (0)):=by show _=_;rw[rg_succ M (0)];simp[hM]
     clear hM;go_wp2;go_roundw
     case rel =>
      refine⟨(0)+1,by omega,by go_num,?_⟩
      rw[HR.out];exact HO.out
     case measure=>first|(simp[intOf];done)|(simp[intOf];omega)
    |true =>
     rw[hM]at c0;cases hN:M (1) with
     |true =>
      rw[hN]at cn;have hM2:Hid (M (0)=true):=hM;have hN2:Hid (M (1)=true):=hN;have HR:Hid (rg M (0+1)=rg M (0)++[((0:Nat):Int)]):=by show _=_;rw[rg_succ M (0)];simp[hM,hN]
      clear hM hN;go_wp2_with (at_builtin;refine listA (l:=rg M (0)) rfl _ _ rfl rfl rfl HO.out (by rw[HON.out];omega) ?_;intro W L n a1 c1 E1 E2 E3;have d0:=HCW.out W (0) E3.out.bel (by omega);have dn:=HCW.out W (1) E3.out.bel (by omega);have lbW:=lt_of_cell d0;rw[hM2.out]at d0;rw[hN2.out]at dn)
      go_roundw
      case rel =>
       refine⟨(0)+1,by omega,by go_num,?_⟩
       rw[HR.out];exact E1.out▸E3.out
      case measure=>first|(simp[intOf];done)|(simp[intOf];omega)
     |false =>
      rw[hN]at cn;have hM2:Hid (M (0)=true):=hM;have hN2:Hid (M (1)=false):=hN;have HR:Hid (rg M (0+1)=rg M (0)++([((0:Nat):Int)]++[((0:Nat):Int)])):=by show _=_;rw[rg_succ M (0)];simp[hM,hN]
      clear hM hN;go_wp2_with (first|(at_builtin;refine listA (l:=rg M (0)) rfl _ _ rfl rfl rfl HO.out (by rw[HON.out];omega) ?_;intro W L n a1 c1 E1 E2 E3;have d0:=HCW.out W (0) E3.out.bel (by omega);have dn:=HCW.out W (1) E3.out.bel (by omega);have lbW:=lt_of_cell d0;rw[hM2.out]at d0;rw[hN2.out]at dn)|(at_builtin;refine listA (l:=L) rfl _ _ rfl rfl rfl E3.out (by rw[E1.out,List.length_append,HON.out];simp;omega) ?_;intro W2 L2 n2 a2 c2 G1 G2 G3))
      go_roundw
      case rel =>
       refine⟨(0)+1,by omega,by go_num,?_⟩
       have e:rg M ((0)+1)=L2:=by rw[HR.out,G1.out,E1.out,List.append_assoc];rfl
       rw[e];exact G3.out
      case measure=>first|(simp[intOf];done)|(simp[intOf];omega)
   ·obtain⟨j,rfl⟩:∃j,k=j+1:=⟨k-1,by omega⟩
    have e0:((j:Int)+1==0)=false:=by simp;omega
    by_cases h5:j=254
    ·subst h5
     have c0:=HCW.out wr (255) HO.out.bel (by omega)
     have cp:=HCW.out wr (254) HO.out.bel (by omega)
     cases hM:M (255) with
     |false =>
      rw[hM]at c0;have HR:Hid (rg M (255+1)=rg M (255)):=by show _=_;rw[rg_succ M (255)];simp[hM]
      clear hM;go_wp2;go_roundw
      case rel =>
       refine⟨(255)+1,by omega,by go_num,?_⟩
       rw[HR.out];exact HO.out
      case measure=>first|(simp[intOf];done)|(simp[intOf];omega)
     |true =>
      rw[hM]at c0;cases hP:M (254) with
      |true =>
       rw[hP]at cp;have hM2:Hid (M (255)=true):=hM;have HR:Hid (rg M (255+1)=rg M (255)++[((255:Nat):Int)]):=by show _=_;rw[rg_succ M (255)];simp[hM,hP]
       clear hM hP;go_wp2_with (at_builtin;refine listA (l:=rg M (255)) rfl _ _ rfl rfl rfl HO.out (by rw[HON.out];omega) ?_;intro W L n a1 c1 E1 E2 E3;have d0:=HCW.out W (255) E3.out.bel (by omega);have lbW:=lt_of_cell d0)
       go_roundw
       case rel =>
        refine⟨(255)+1,by omega,by go_num,?_⟩
        rw[HR.out];exact E1.out▸E3.out
       case measure=>first|(simp[intOf];done)|(simp[intOf];omega)
      |false =>
       rw[hP]at cp;have hM2:Hid (M (255)=true):=hM;have HR:Hid (rg M (255+1)=rg M (255)++([((255:Nat):Int)]++[((255:Nat):Int)])):=by show _=_;rw[rg_succ M (255)];simp[hM,hP]
       clear hM hP;go_wp2_with (first|(at_builtin;refine listA (l:=rg M (255)) rfl _ _ rfl rfl rfl HO.out (by rw[HON.out];omega) ?_;intro W L n a1 c1 E1 E2 E3;have d0:=HCW.out W (255) E3.out.bel (by omega);have lbW:=lt_of_cell d0;rw[hM2.out]at d0)|(at_builtin;refine listA (l:=L) rfl _ _ rfl rfl rfl E3.out (by rw[E1.out,List.length_append,HON.out];simp;omega) ?_;intro W2 L2 n2 a2 c2 G1 G2 G3))
       go_roundw
       case rel =>
        refine⟨(255)+1,by omega,by go_num,?_⟩
        have e:rg M ((255)+1)=L2:=by rw[HR.out,G1.out,E1.out,List.append_assoc];rfl
        rw[e];exact G3.out
       case measure=>first|(simp[intOf];done)|(simp[intOf];omega)
    ·have e5:((j:Int)+1==255)=false:=by simp;omega
     have hj2:(j:Int)+1+1<256:=by omega
     have c0:=HCW.out wr (j+1) HO.out.bel (by omega)
     have cp:=HCW.out wr (j) HO.out.bel (by omega)
     have cn:=HCW.out wr (j+1+1) HO.out.bel (by omega)
     cases hM:M (j+1) with
     |false =>
      rw[hM]at c0;have HR:Hid (rg M (j+1+1)=rg M (j+1)):=by show _=_;rw[rg_succ M (j+1)];simp[h5,hM]
      clear hM;go_wp2;go_roundw
      case rel =>
       refine⟨(j+1)+1,by omega,by go_num,?_⟩
       rw[HR.out];exact HO.out
      case measure=>first|(simp[intOf];done)|(simp[intOf];omega)
     |true =>
      rw[hM]at c0;cases hP:M (j) with
      |true =>
       rw[hP]at cp;cases hN:M (j+1+1) with
       |true =>
        rw[hN]at cn;have hM2:Hid (M (j+1)=true):=hM;have hN2:Hid (M (j+1+1)=true):=hN;have HR:Hid (rg M (j+1+1)=rg M (j+1)):=by show _=_;rw[rg_succ M (j+1)];simp[h5,hM,hP,hN]
        clear hM hP hN;go_wp2;go_roundw
        case rel =>
         refine⟨(j+1)+1,by omega,by go_num,?_⟩
         rw[HR.out];exact HO.out
        case measure=>first|(simp[intOf];done)|(simp[intOf];omega)
       |false =>
        rw[hN]at cn;have hM2:Hid (M (j+1)=true):=hM;have hN2:Hid (M (j+1+1)=false):=hN;have HR:Hid (rg M (j+1+1)=rg M (j+1)++[((j+1:Nat):Int)]):=by show _=_;rw[rg_succ M (j+1)];simp[h5,hM,hP,hN]
        clear hM hP hN;go_wp2_with (at_builtin;refine listA (l:=rg M (j+1)) rfl _ _ rfl rfl rfl HO.out (by rw[HON.out];omega) ?_;intro W L n a1 c1 E1 E2 E3;have d0:=HCW.out W (j+1) E3.out.bel (by omega);have dn:=HCW.out W (j+1+1) E3.out.bel (by omega);have lbW:=lt_of_cell d0)
        go_roundw
        case rel =>
         refine⟨(j+1)+1,by omega,by go_num,?_⟩
         rw[HR.out];exact E1.out▸E3.out
        case measure=>first|(simp[intOf];done)|(simp[intOf];omega)
      |false =>
       rw[hP]at cp;cases hN:M (j+1+1) with
       |true =>
        rw[hN]at cn;have hM2:Hid (M (j+1)=true):=hM;have hN2:Hid (M (j+1+1)=true):=hN;have HR:Hid (rg M (j+1+1)=rg M (j+1)++[((j+1:Nat):Int)]):=by show _=_;rw[rg_succ M (j+1)];simp[h5,hM,hP,hN]
        clear hM hP hN;go_wp2_with (at_builtin;refine listA (l:=rg M (j+1)) rfl _ _ rfl rfl rfl HO.out (by rw[HON.out];omega) ?_;intro W L n a1 c1 E1 E2 E3;have d0:=HCW.out W (j+1) E3.out.bel (by omega);have dn:=HCW.out W (j+1+1) E3.out.bel (by omega);have lbW:=lt_of_cell d0;rw[hM2.out]at d0;rw[hN2.out]at dn)
        go_roundw
        case rel =>
         refine⟨(j+1)+1,by omega,by go_num,?_⟩
         rw[HR.out];exact E1.out▸E3.out
        case measure=>first|(simp[intOf];done)|(simp[intOf];omega)
       |false =>
        rw[hN]at cn;have hM2:Hid (M (j+1)=true):=hM;have hN2:Hid (M (j+1+1)=false):=hN;have HR:Hid (rg M (j+1+1)=rg M (j+1)++([((j+1:Nat):Int)]++[((j+1:Nat):Int)])):=by show _=_;rw[rg_succ M (j+1)];simp[h5,hM,hP,hN]
        clear hM hP hN;go_wp2_with (first|(at_builtin;refine listA (l:=rg M (j+1)) rfl _ _ rfl rfl rfl HO.out (by rw[HON.out];omega) ?_;intro W L n a1 c1 E1 E2 E3;have d0:=HCW.out W (j+1) E3.out.bel (by omega);have dn:=HCW.out W (j+1+1) E3.out.bel (by omega);have lbW:=lt_of_cell d0;rw[hM2.out]at d0;rw[hN2.out]at dn)|(at_builtin;refine listA (l:=L) rfl _ _ rfl rfl rfl E3.out (by rw[E1.out,List.length_append,HON.out];simp;omega) ?_;intro W2 L2 n2 a2 c2 G1 G2 G3))
        go_roundw
        case rel =>
         refine⟨(j+1)+1,by omega,by go_num,?_⟩
         have e:rg M ((j+1)+1)=L2:=by rw[HR.out,G1.out,E1.out,List.append_assoc];rfl
         rw[e];exact G3.out
        case measure=>first|(simp[intOf];done)|(simp[intOf];omega)
  ·obtain rfl:k=256:=by omega
   go_wp2;go_ret;exact⟨oa,oc,by rw[HON.out];rfl,by rw[HON.out];exact HO.out⟩
def halfB(M:Nat→Bool)(m:Nat)(j:Nat):Value:=if j<m then .bool (M j) else .bool false
theorem halfB_step{t:TypeId}{w:World}{b n m:Nat}{M:Nat→Bool}(h:w.rowIs b t n (halfB M m)):(w.setCell ⟨b,m,none⟩ (.bool (M m))).rowIs b t n (halfB M (m+1)):=by
 refine (h.set m (.bool (M m))).congr fun i _=>?_
 unfold halfB;by_cases e:i=m
 ·subst e;simp
 ·rw[if_neg e]
  by_cases e2:i<m
  ·rw[if_pos e2,if_pos (by omega)]
  ·rw[if_neg e2,if_neg (by omega)]
theorem info4:(Tryz.prog.info? 4).map (fun i=>(i.zero,i.size,i.bytes))=some (some (.bool false),1,1):=by kernel_rfl
def byI(w:World)(M:Nat→Bool)(iv:Value)(wr:World):Prop :=
 ∃m:Nat,m≤256∧iv=.int .i64 (m:Int)∧wr.rowIs w.heap.size 4 256 (halfB M m)∧Below w.heap.size w wr∧wr.heap.size=w.heap.size+1
set_option maxRecDepth 100000 in
set_option maxHeartbeats 8000000 in
theorem l4bytes_any(Q Q':Nat→Prop)(a a':Option Addr)(n n' c c':Nat)(S S':Nat→Int)(w:World)(h1:Ints Q .i64 w a n S)(h2:Ints Q' .i64 w a' n' S')(hn:n≤1048576)(hn':n'≤1048576) :
  Calls Tryz.prog 72 #[.slice a n c,.slice a' n' c'] w (GivesL (rg (fun b=>hasN n S b||hasN n' S' b) 256) w):=by
 have hmk:=run_make_row' (P:=Tryz.prog) 135 4 (.bool false) 1 Tryz.underlying135 info4 rfl .i64 .i64 256 (by omega) (by omega)
 simp only[show ((256:Nat):Int)=256 from rfl]at hmk
 have H1:Hid (Ints Q .i64 w a n S):=h1;have H2:Hid (Ints Q' .i64 w a' n' S'):=h2;obtain⟨M,hM⟩:∃M:Nat→Bool,M=fun b:Nat=>hasN n S b||hasN n' S' b:=⟨_,rfl⟩
 have HM:Hid (M=fun b:Nat=>hasN n S b||hasN n' S' b):=hM
 rw[←hM];clear h1 h2 hM;go_enter Tryz.func72,Tryz.ntmps72;go_wp2;go_loopw [6] (fun iv wr=>byI w M iv wr) (fun iv _=>256-(intOf iv).toNat)
 case atStart=>exact⟨0,by omega,rfl,(World.rowIs_made w _ 256 4).congr fun i _=>by simp[halfB],(Below.refl _ w).alloc (Nat.le_refl _) _,by simp⟩
 case round =>
  obtain⟨m,hm,rfl,hrow,hbel,hsz⟩:=hrel;clear hmk;by_cases hlt:m<256
  ·have hlt':(m:Int)<256:=by omega
   have hc2:=hrow.cell hlt;have hf2:=hrow.frozen m;have hst:=halfB_step hrow;have HST:Hid ((wr.setCell ⟨w.heap.size,m,none⟩ (.bool (M m))).rowIs w.heap.size 4 256 (halfB M (m+1))):=hst;have HBE:Hid (Below w.heap.size w wr):=hbel;have HSZ:Hid (wr.heap.size=w.heap.size+1):=hsz;clear hrow hst hbel hsz;go_wp2_with fail;refine (l2has_any Q a n c S m _ (H1.out.later HBE.out) hn).mono ?_;rintro e W ⟨rfl,hW⟩;subst W;cases hq:hasN n S m with
   |true =>
    have hMm:Hid (M m=true):=by show M m=true;rw[HM.out];simp[hq]
    clear hq;go_wp2;go_roundw
    case rel=>exact⟨m+1,by omega,by go_num,hMm.out▸HST.out,bel_set HBE.out _ _ _ (Nat.le_refl _),by rw[size_set];exact HSZ.out⟩
    case measure=>simp[intOf];omega
   |false =>
    have hMm:Hid (M m=hasN n' S' m):=by show M m=_;rw[HM.out];simp[hq]
    clear hq;go_wp2_with fail;refine (l2has_any Q' a' n' c' S' m _ (H2.out.later HBE.out) hn').mono ?_;rintro e W ⟨rfl,hW⟩;subst W;rw[←hMm.out];go_wp2;go_roundw
    case rel=>exact⟨m+1,by omega,by go_num,HST.out,bel_set HBE.out _ _ _ (Nat.le_refl _),by rw[size_set];exact HSZ.out⟩
    case measure=>simp[intOf];omega
  ·obtain rfl:m=256:=by omega
   have HBE:Hid (Below w.heap.size w wr):=hbel;have HMB:Hid (Bools wr (some ⟨w.heap.size,0,none⟩) M):=⟨w.heap.size,rfl,fun i hi=>by rw[hrow.cell hi];simp[halfB,hi]⟩
   clear hrow hbel hsz;go_wp2_with fail;refine (l2ranges_any _ M _ HMB.out).mono ?_;rintro e W ⟨a2,c2,rfl,hO⟩;have HO:Hid (OwnL wr W (.slice a2 (rg M 256).length c2) (rg M 256)):=hO;clear hO;go_wp2;go_ret;obtain⟨P,k1,k2,k3⟩:=HO.out;have:=HBE.out.size;exact⟨a2,c2,rfl,P,k1,fun b hb=>⟨by have:=k2 b hb;omega,(k2 b hb).2⟩,bel_tr HBE.out k3⟩
end
end Go.Proofs.YtcbnnfnlilbjeaaGreat
