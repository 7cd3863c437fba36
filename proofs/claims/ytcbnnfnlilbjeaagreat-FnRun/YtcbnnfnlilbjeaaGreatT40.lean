import Derived.Test.YtcbnnfnlilbjeaaGreatT33
import Derived.Deep.MidRow
import Derived.Test.YtcbnnfnlilbjeaaGreatT32
import Derived.Deep.RegionHeld3
import Derived.Deep.RegionLaw
set_option linter.unusedVariables false
set_option linter.unusedSimpArgs false
namespace Go.Proofs.YtcbnnfnlilbjeaaGreat
section
open Go.RowKit
def cl(M:Nat→Bool):Nat→List Int
 |0=>[]
 |b+1=>if M b=true then (if b≠0∧M (b-1)=true then (cl M b).dropLast++[(b:Int)] else cl M b++[(b:Int),(b:Int)]) else cl M b
theorem cl_len(M:Nat→Bool):∀b,(cl M b).length≤2*b
 |0=>Nat.le_refl _
 |b+1=>by
  have:=cl_len M b;rw[cl];split
  ·split
   ·rw[List.length_append,List.length_dropLast,List.length_singleton];omega
   ·rw[List.length_append];simp;omega
  ·omega
theorem cl_last(M:Nat→Bool):∀b,(b≠0∧M (b-1)=true→(cl M b).getLast? = some ((b:Int)-1))∧∀x,(cl M b).getLast? = some x→x≤(b:Int)-1∧(¬(b≠0∧M (b-1)=true)→x<(b:Int)-1)
 |0=>⟨fun h=>absurd rfl h.1,fun x h=>by simp[cl]at h⟩
 |b+1=>by
  obtain⟨h1,h2⟩:=cl_last M b;cases hM:M b with
  |false =>
   have e:cl M (b+1)=cl M b:=by rw[cl,hM];simp
   rw[e];refine⟨fun h=>?_,fun x hx=>?_⟩
   ·have:=h.2;rw[Nat.add_sub_cancel,hM]at this;cases this
   ·have:=(h2 x hx).1
    exact⟨by omega,fun _=>by omega⟩
  |true =>
   have e:(cl M (b+1)).getLast? = some ((b:Int)):=by
    rw[cl,hM];simp only[if_true];split
    ·simp
    ·simp
   rw[e];refine⟨fun _=>by congr 1;omega,fun x hx=>?_⟩
   cases hx
   exact⟨by omega,fun h=>absurd ⟨by omega,by rw[Nat.add_sub_cancel];exact hM⟩ h⟩
theorem rg_cl(M:Nat→Bool):∀b,b≤256→rg M b=if b≠0∧M (b-1)=true∧b≠256∧M b=true then (cl M b).dropLast else cl M b
 |0,_=>by simp[rg,cl]
 |b+1,hb=>by
  have ih:=rg_cl M b (by omega)
  have e:cl M (b+1)=(if M b=true then (if b≠0∧M (b-1)=true then (cl M b).dropLast++[(b:Int)] else cl M b++[(b:Int),(b:Int)]) else cl M b):=rfl
  rw[rg_succ M b,ih,e];generalize cl M b=L;have h6:b≠256:=by omega
  cases hM:M b with
  |false=>simp[hM]
  |true =>
   by_cases h0:b=0
   ·subst h0
    cases hN:M 1<;>simp[hM,hN]
   ·cases hP:M (b-1) with
    |false =>
     by_cases h5:b=255
     ·subst h5;simp[hM,hP]
     ·cases hN:M (b+1)<;>simp[hM,hN,hP,h0,h5,h6]
    |true =>
     by_cases h5:b=255
     ·subst h5;simp[hM,hP]
     ·cases hN:M (b+1)<;>simp[hM,hN,hP,h0,h5,h6]
theorem rg_cl_all(M:Nat→Bool):rg M 256=cl M 256:=by rw[rg_cl M 256 (Nat.le_refl _),if_neg (fun h=>h.2.2.1 rfl)]
theorem list_run2{w0 w1:World}{v:Value}{l:List Int}(z y:Int)(ty:TypeId)(h:OwnL w0 w1 v l)(hso:Soft w0 w1)(hl:l.length≤4194304) :
  ∃v' w',(Builtin.append_ #[33,33] ty #[v,.slice (some ⟨w1.heap.size,0,none⟩) 2 2]).run Tryz.prog (w1.alloc (.cells #[.int .i64 z,.int .i64 y] 3))=.ok v' w'∧OwnL w0 w' v' (l++[z,y])∧Soft w0 w':=by
 obtain⟨P,ho,hp,hb⟩:=h;have b1:=bel1 w1 (.cells #[.int .i64 z,.int .i64 y] 3);have hs:Src Tryz.prog 1 33 (.slice (some ⟨w1.heap.size,0,none⟩) 2 2) 2 [.int .i64 z,.int .i64 y] (w1.alloc (.cells #[.int .i64 z,.int .i64 y] 3)):=by
  refine Src.ofSlice (P:=Tryz.prog) _ Tryz.underlying33 ⟨w1.heap.size,0,none⟩ 2 2 [.int .i64 z,.int .i64 y] rfl (fun j u hu=>?_) (fun u hu=>?_)
  ·match j,hu with
   |0,hu=>simpa[Addr.add] using (cN w1.heap.size rfl hu:(w1.alloc (.cells #[.int .i64 z,.int .i64 y] 3)).cell? ⟨w1.heap.size,0,none⟩=some u)
   |1,hu=>simpa[Addr.add] using (cN w1.heap.size rfl hu:(w1.alloc (.cells #[.int .i64 z,.int .i64 y] 3)).cell? ⟨w1.heap.size,1,none⟩=some u)
   |j+2,hu=>simp at hu
  ·simp at hu
   rcases hu with rfl | rfl<;>rfl
 obtain⟨v',w',hr,k1,k2,k3⟩:=appC_run' ty elem33 (ho.on (fun b hb=>b1.block b (hp b hb).2)) hs (by omega) (fun _=>by omega)
 refine⟨v',w',hr,⟨fun b=>(P b∨(w1.alloc (.cells #[.int .i64 z,.int .i64 y] 3)).heap.size≤b)∧b<w'.heap.size,?_,?_,?_⟩,(hso.trans (soft1 w1 _ 3) b1).grew k2⟩
 ·have e:intsV (l++[z,y])=intsV l++[.int .i64 z,.int .i64 y]:=by simp[intsV]
  rw[e,List.length_append];show OwnC _ _ _ _ (l.length+2) _;rcases k1 with q | ⟨g,cap,e,hq,h3,h4,h5,h6⟩
  ·exact .inl q
  ·refine .inr ⟨g,cap,e,⟨hq,?_⟩,h3,h4,h5,h6⟩
   obtain⟨u,hu⟩:=Option.isSome_iff_exists.1 (h6 0 (by omega)).1
   exact lt_of_cell hu
 ·rintro b ⟨q | q,hlt⟩
  ·exact⟨(hp b q).1,hlt⟩
  ·have:=hb.size
   have:=b1.size;exact⟨by omega,hlt⟩
 ·have hs0:=hb.size
  have hs1:=b1.size;exact⟨k2.os.trans (b1.os.trans hb.os),k2.tape.trans (b1.tape.trans hb.tape),k2.output.trans (b1.output.trans hb.output),by have:=k2.size;omega,fun b hbb=>(k2.block b (by omega) (fun q=>by have:=(hp b q).1;omega)).trans ((b1.block b (by omega)).trans (hb.block b hbb))⟩
theorem listA2{ops:Array Oper}{rest:List Oper}{o:Oper}{a:Act}{P':Exit→Act→World→Prop}(hgd:o.guard=none)(s x:Operand)(ho:o.op=.call { callee:=.builtin .append,args:=#[s,x],argTypes:=#[33,33] })
  {w0 w1:World} {v:Value} {l:List Int} {z y:Int} (hs:a.eval s=v) (hx:a.eval x=.slice (some ⟨w1.heap.size,0,none⟩) 2 2) (h:OwnL w0 w1 v l) (hso:Soft w0 w1) (hl:l.length≤4194304)
  (k:∀w' l' n' a' c',Hid (l'=l++[z,y])→Hid (n'=l'.length)→Hid (OwnL w0 w' (.slice a' n' c') l')→Hid (Soft w0 w')→wpList Tryz.prog ops P' rest (a.put o.dst (.slice a' n' c')) w'):wpList Tryz.prog ops P' (o::rest) a (w1.alloc (.cells #[.int .i64 z,.int .i64 y] 3)):=by
 refine wpList_plain hgd fun K hK=>?_
 obtain⟨v',w',hr,hR,hSo⟩:=list_run2 z y o.type h hso hl;obtain⟨a',c',rfl⟩:=hR.shape;unfold Oper.wp execOp;simp only[ho,resolve,invoke,builtin,Sem.run_bind,Sem.run_pure,Result.andThen_ok,List.map_toArray,List.map_cons,List.map_nil,hs,hx,hr];exact hK _ _ (k w' (l++[z,y]) _ a' c' rfl rfl hR hSo)
theorem ownL_last{w0 w:World}{a:Option Addr}{c j:Nat}{X:List Int}{x:Int}(h:OwnL w0 w (.slice a (j+1) c) (X++[x]))(hj:X.length=j) :
  ∃g,a=some ⟨g,0,none⟩∧w0.heap.size≤g∧g<w.heap.size∧w.cell? ⟨g,j,none⟩=some (.int .i64 x)∧w.frozen? ⟨g,j,none⟩=false∧∀y:Int,OwnL w0 (w.setCell ⟨g,j,none⟩ (.int .i64 y)) (.slice (some ⟨g,0,none⟩) (j+1) c) (X++[y]):=by
 subst hj;obtain⟨P,ho,hp,hb⟩:=h;have hl:(X++[x]).length=X.length+1:=by simp
 rcases ho with⟨_,e,_⟩|⟨g,cap,e,hq,h3,h4,h5,h6⟩
 ·omega
 ·injection e with e1 e2 e3
  subst e3;have hv:intsV (X++[x])=intsV X++[.int .i64 x]:=by simp[intsV]
  have hvl:(intsV X).length=X.length:=by simp[intsV]
  have hc:w.cell? ⟨g,X.length,none⟩=some (.int .i64 x):=by
   rw[h5 X.length (by rw[hv];simp[hvl]),hv,List.getElem?_append_right (by omega),hvl];simp
  refine⟨g,e1,(hp g hq).1,(hp g hq).2,hc,(h6 X.length (by omega)).2,fun y=>⟨P,?_,fun b q=>by rw[size_set];exact hp b q,?_⟩⟩
  ·have hvy:intsV (X++[y])=intsV X++[.int .i64 y]:=by simp[intsV]
   have hl2:(X++[y]).length=X.length+1:=by simp
   rw[hl2];refine .inr ⟨g,c,rfl,hq,by rw[hvy];simp[hvl],by omega,fun i hi=>?_,fun i hi=>?_⟩
   ·rw[hvy,List.length_append,hvl,List.length_singleton]at hi
    by_cases e:i=X.length
    ·subst e
     rw[cell_set_same hc,hvy,List.getElem?_append_right (by omega),hvl];simp
    ·rw[cell_set_other (fun q=>e q.symm),h5 i (by rw[hv];simp[hvl];omega),hv,hvy,List.getElem?_append_left (by omega),List.getElem?_append_left (by omega)]
   ·obtain⟨k1,k2⟩:=h6 i hi
    refine⟨?_,(World.frozen?_setCell _ _ _ _).trans k2⟩;by_cases e:i=X.length
    ·subst e;rw[cell_set_same hc];rfl
    ·rw[cell_set_other (fun q=>e q.symm)];exact k1
  ·have hg:=(hp g hq).1
   exact hb.setCell (p:=⟨g,X.length,none⟩) hg _
def GivesS(l:List Int)(w:World)(e:Ending)(w':World):Prop:=∃a c,e=.returned (.slice a l.length c)∧OwnL w w' (.slice a l.length c) l∧Soft w w'
def clI(w:World)(M:Nat→Bool)(ov iv:Value)(wr:World):Prop:=∃k:Nat,k≤256∧iv=.int .i64 (k:Int)∧OwnL w wr ov (cl M k)∧Soft w wr
theorem arrSize:(Tryz.prog.info? 66).map (·.size)=some 256:=by kernel_rfl
theorem boolSize:(Tryz.prog.info? 4).map (·.size)=some 1:=by kernel_rfl
theorem index_run(arr:Array Value)(k:Nat)(v:Value)(w:World)(hk:k<256)(hv:arr[k]? = some v):(Instr.index 66 (.agg arr) (.int .i64 (k:Int))).run Tryz.prog w=.ok v w:=by
 obtain⟨j,hj,hs⟩:=Option.map_eq_some_iff.1 boolSize;have h1:(k:Int)<256:=by omega
 simp[Instr.index,asIntOf,run_underlying Tryz.underlying66,run_underlying Tryz.underlying4,part,isAgg,sizeOf,typeInfo,hj,hs,h1,hv];intro q;omega
set_option maxRecDepth 100000 in
set_option maxHeartbeats 4000000 in
theorem rangesOf_any(arr:Array Value)(M:Nat→Bool)(w:World)(hs:arr.size=256)(hM:∀i,i<256→arr[i]? = some (.bool (M i))) :
  Calls Tryz.prog 53 #[.agg arr,.bool true] w (GivesS (rg M 256) w):=by
 have HM:Hid (∀i,i<256→arr[i]? = some (.bool (M i))):=hM;have HG:Hid (∀e w',GivesS (cl M 256) w e w'→GivesS (rg M 256) w e w'):=fun e w' h=>by rw[rg_cl_all];exact h
 clear hM;go_enter Tryz.func53,Tryz.ntmps53;go_wp2;refine wp_load_mid 66 (.tmp 2) rfl w.heap.size 0 rfl arr.toList (.array 256 4) (fun j v hv=>?_) Tryz.underlying66 rfl (by rw[Array.length_toList,hs];exact arrSize) ?_
 ·rw[Nat.zero_add]
  exact blk_cell (blk_new w _ _ rfl) (by simpa using hv)
 rw[Array.toArray_toList];go_wp2;go_loopw [5,9] (fun ov iv wr=>clI w M ov iv wr) (fun ov iv _=>256-(intOf iv).toNat)
 case atStart=>exact⟨0,by omega,rfl,OwnL.nil (bel1 w _),soft1 w _ 66⟩
 case round =>
  obtain⟨k,hk,rfl,hO,hSO⟩:=hrel;have HSO:Hid (Soft w wr):=hSO;clear hSO;obtain⟨oa,oc,rfl⟩:=hO.shape;have hln:=cl_len M k;obtain⟨on,hon⟩:∃on,(cl M k).length=on:=⟨_,rfl⟩;rw[hon]at hO hln ⊢;have HO:Hid (OwnL w wr (.slice oa on oc) (cl M k)):=hO;have HON:Hid ((cl M k).length=on):=hon;clear hO hon;by_cases hlt:k<256
  ·have hlt':(k:Int)<256:=by omega
   have hix:=fun w=>index_run arr k _ w hlt (HM.out k hlt)
   have hcl:cl M (k+1)=(if M k=true then (if k≠0∧M (k-1)=true then (cl M k).dropLast++[(k:Int)] else cl M k++[(k:Int),(k:Int)]) else cl M k):=rfl
   cases hMk:M k with
   |false =>
    rw[hMk]at hcl hix;have HR:Hid (cl M (k+1)=cl M k):=by show _=_;rw[hcl];simp
    clear hcl hMk;go_wp2;go_roundw
    case rel=>exact⟨k+1,by omega,by go_num,by rw[HR.out];exact HO.out,HSO.out⟩
    case measure=>simp[intOf];omega
   |true =>
    rw[hMk]at hcl hix;obtain⟨hl1,hl2⟩:=cl_last M k;by_cases hp:k≠0∧M (k-1)=true
    ·have HR:Hid (cl M (k+1)=(cl M k).dropLast++[(k:Int)]):=by show _=_;rw[hcl,if_pos rfl,if_pos hp]
     obtain⟨X,hX⟩:∃X,(cl M k).dropLast=X:=⟨_,rfl⟩;have hcons:cl M k=X++[(k:Int)-1]:=by
      rw[←hX];have:=hl1 hp;rw[List.getLast?_eq_some_iff]at this;obtain⟨ys,hy⟩:=this;rw[hy];simp
     obtain⟨j,rfl⟩:∃j,on=j+1:=⟨on-1,by have:=HON.out;rw[hcons,List.length_append,List.length_singleton]at this;omega⟩
     have hXl:X.length=j:=by have:=HON.out;rw[hcons,List.length_append,List.length_singleton]at this;omega
     have hO:=HO.out;rw[hcons]at hO;obtain⟨g,rfl,g1,g2,c1,f1,hst⟩:=ownL_last hO hXl;have HST:Hid (∀y:Int,OwnL w (wr.setCell ⟨g,j,none⟩ (.int .i64 y)) (.slice (some ⟨g,0,none⟩) (j+1) oc) (X++[y])):=hst;have HX:Hid (cl M (k+1)=X++[(k:Int)]):=by show _=_;rw[HR.out,hX]
     have HXL:Hid (X.length=j):=hXl;have hj0:(0:Int)<((j+1:Nat):Int):=by omega
     have e1:((j+1:Nat):Int)-1=(j:Int):=by omega
     have hjl:(j:Int)<((j+1:Nat):Int):=by omega
     have hj5:j≤512:=by omega
     clear hcl hMk hl1 hl2 hp hcons hO hst hX hXl HO HON HR;go_wp2;go_roundw
     case rel=>exact⟨k+1,by omega,by go_num,by rw[HX.out];exact HST.out _,HSO.out.set _ _⟩
     case measure=>simp[intOf];omega
    ·have HR:Hid (cl M (k+1)=cl M k++[(k:Int),(k:Int)]):=by show _=_;rw[hcl,if_pos rfl,if_neg hp]
     rcases Nat.eq_zero_or_pos on with h0 | h0
     ·subst h0
      clear hcl hMk hl1 hl2 hp;go_wp2_with (at_builtin;refine listA2 (l:=cl M k) rfl _ _ rfl rfl rfl HO.out HSO.out (by rw[HON.out];omega) ?_;intro W L n a1 c1 E1 E2 E3 E4)
      go_roundw
      case rel=>exact⟨k+1,by omega,by go_num,by rw[HR.out];exact E1.out▸E3.out,E4.out⟩
      case measure=>simp[intOf];omega
     ·obtain⟨j,rfl⟩:∃j,on=j+1:=⟨on-1,by omega⟩
      obtain⟨x,hx⟩:∃x,(cl M k).getLast? = some x:=by
       cases q:(cl M k).getLast? with
       |none=>rw[List.getLast?_eq_none_iff]at q;have:=HON.out;rw[q]at this;simp at this
       |some x=>exact⟨x,rfl⟩
      have hxk:=(hl2 x hx).2 hp;obtain⟨X,hcons⟩:=List.getLast?_eq_some_iff.1 hx;have hXl:X.length=j:=by have:=HON.out;rw[hcons,List.length_append,List.length_singleton]at this;omega
      have hO:=HO.out;rw[hcons]at hO;obtain⟨g,rfl,g1,g2,c1,f1,hst⟩:=ownL_last hO hXl;have hne:(x==(k:Int)-1)=false:=by simp;omega
      have hj0:(0:Int)<((j+1:Nat):Int):=by omega
      have e1:((j+1:Nat):Int)-1=(j:Int):=by omega
      have hjl:(j:Int)<((j+1:Nat):Int):=by omega
      have hj5:j≤512:=by omega
      clear hcl hMk hl1 hl2 hp hO hst hXl hx hcons hxk;go_wp2_with (at_builtin;refine listA2 (l:=cl M k) rfl _ _ rfl rfl rfl HO.out HSO.out (by rw[HON.out];omega) ?_;intro W L n a1 c1 E1 E2 E3 E4)
      go_roundw
      case rel=>exact⟨k+1,by omega,by go_num,by rw[HR.out];exact E1.out▸E3.out,E4.out⟩
      case measure=>simp[intOf];omega
  ·obtain rfl:k=256:=by omega
   go_wp2;go_ret;refine HG.out _ _ ⟨oa,oc,congrArg (fun n=>Ending.returned (.slice oa n oc)) HON.out.symm,?_,HSO.out⟩
   rw[HON.out];exact HO.out
end
section
open Go.RowKit
open M (OpD NodeD Gr InsD)
def OutIs(u:MSt)(L:Nat→Prop)(w:World)(e:Ending)(w':World):Prop :=
  ∃ea ec va vc,∃Q1 Q2:Nat→Prop,e=.returned (outV (outOf u) ea ec va vc)∧OutW Q1 Q2 w' (outOf u) ea va∧(∀x,Q1 x→New w w' x)∧(∀x,Q2 x→L x∨New w w' x)∧Below w.heap.size w w'
theorem out_bad{u:MSt}{L:Nat→Prop}{w w':World}(h:u.code=4∨u.code=3)(hb:Below w.heap.size w w'):OutIs u L w (.returned (outV (outBad u.code) none 0 none 0)) w':=by
  have e:outOf u=outBad u.code:=by unfold outOf;rw[if_pos h]
  refine⟨none,0,none,0,fun _=>False,fun _=>False,by rw[e],?_,fun x h=>h.elim,fun x h=>h.elim,hb⟩
  rw[e];exact⟨.inl rfl,fun b j h=>h.elim,.inl rfl,fun b h=>h.elim,fun b h=>(h.elim id id).elim⟩
def exL(M:Nat→Bool):List Value:=(List.range 256).map (fun i=>.bool (M i))
theorem exL_len(M:Nat→Bool):(exL M).length=256:=by simp[exL]
theorem exL_get(M:Nat→Bool){i:Nat}(h:i<256):(exL M)[i]? = some (.bool (M i)):=by simp[exL,h]
theorem exL_range{w:World}{b:Nat}{s:MSt}{ia:Option Addr}{il ic:Nat}{most:Int}{ka:Option Addr}{kn kc:Nat}{la:Option Addr}{ln lc:Nat}(h:MacC w b s ia il ic most ka kn kc la ln lc):w.rangeAt b 7 (exL s.exp):=fun j v hv=>by
  have hj:j<256:=by have:=(List.getElem?_eq_some_iff.1 hv).1;rw[exL_len]at this;exact this
  rw[exL_get _ hj]at hv;cases hv
  exact h.ex j hj
def rgA(M:Nat→Bool):List Int:=rg M 256
theorem rgA_eq(M:Nat→Bool):rgA M=rg M 256:=by unfold rgA;rfl
theorem rangesOfA(arr:Array Value)(M:Nat→Bool)(w:World)(hs:arr.size=256)(hM:∀i,i<256→arr[i]? = some (.bool (M i))) :
    Calls Tryz.prog 53 #[.agg arr,.bool true] w (GivesS (rgA M) w):=by
  rw[rgA_eq];exact rangesOf_any arr M w hs hM
theorem rg_own{X W0 W:World}{ea:Option Addr}{ec:Nat}{l:List Int}(hO:OwnL W0 W (.slice ea l.length ec) l)(hSo:Soft W0 W)(hb:Below X.heap.size X W0) :
    Hid (∃P,OwnC P W (.slice ea l.length ec) 1 l.length (intsV l)∧∀x,P x→W0.heap.size≤x∧x<W.heap.size∧∀j,W.frozen? ⟨x,j,none⟩=false)∧Hid (Below X.heap.size X W):=by
  obtain⟨P,ho,hp,hbb⟩:=hO;exact⟨⟨P,ho,fun x hx=>⟨(hp x hx).1,(hp x hx).2,fun j=>hSo x j (hp x hx).1 (hp x hx).2⟩⟩,bel_tr hb hbb⟩
theorem below_set8{X W:World}(h:Below X.heap.size X W)(v0 v1 v2 v3 v4 v5 v6 v7:Value):Below X.heap.size X (set8 W X.heap.size v0 v1 v2 v3 v4 v5 v6 v7):=by
  have ho:=set8_only W X.heap.size v0 v1 v2 v3 v4 v5 v6 v7;exact⟨ho.os.trans h.os,ho.tape.trans h.tape,ho.output.trans h.output,by rw[ho.size];exact h.size,fun x hx=>(ho.block x (by omega)).trans (h.block x hx)⟩
theorem set8_box{w:World}{b:Nat}{t:TypeId}{c0 c1 c2 c3 c4 c5 c6 c7:Value}(v0 v1 v2 v3 v4 v5 v6 v7:Value)(h:w.heap[b]? = some (.cells #[c0,c1,c2,c3,c4,c5,c6,c7] t)):(set8 w b v0 v1 v2 v3 v4 v5 v6 v7).heap[b]? = some (.cells #[v0,v1,v2,v3,v4,v5,v6,v7] t):=by
  have e:=(blk_set (j:=7) v7 (blk_set (j:=6) v6 (blk_set (j:=5) v5 (blk_set (j:=4) v4 (blk_set (j:=3) v3 (blk_set (j:=2) v2 (blk_set (j:=1) v1 (blk_set (j:=0) v0 h))))))));simp only[List.setIfInBounds_toArray,List.set_cons_zero,List.set_cons_succ]at e;exact e
theorem rg_blk{X W0 W:World}{o:Obj}(hb:Below W0.heap.size W0 W)(h:W0.heap[X.heap.size]? = some o):W.heap[X.heap.size]? = some o:=(hb.block _ (Array.getElem?_eq_some_iff.1 h).1).trans h
theorem only_end0(V:World)(ob r:Nat)(v0 v1 v2 v3 v4 v5 v6 v7:Value):Only (fun x=>x=ob∨x=r) V (set8 V r v0 v1 v2 v3 v4 v5 v6 v7):=by
  have h:=set8_only V r v0 v1 v2 v3 v4 v5 v6 v7;exact⟨h.os,h.tape,h.output,h.size,fun x hx=>h.block x (fun e=>hx (.inr e))⟩
theorem only_end2(V:World)(ob r i j:Nat)(a c v0 v1 v2 v3 v4 v5 v6 v7:Value):Only (fun x=>x=ob∨x=r) V (set8 ((V.setCell ⟨ob,i,none⟩ a).setCell ⟨ob,j,none⟩ c) r v0 v1 v2 v3 v4 v5 v6 v7).drew:=by
  have h:=set8_only ((V.setCell ⟨ob,i,none⟩ a).setCell ⟨ob,j,none⟩ c) r v0 v1 v2 v3 v4 v5 v6 v7;refine Only.drew ⟨h.os,h.tape,h.output,by rw[h.size,size_set,size_set],fun x hx=>(h.block x (fun e=>hx (.inr e))).trans ((Below.heap_setCell _ _ _ _ (fun e=>hx (.inl e))).trans (Below.heap_setCell _ _ _ _ (fun e=>hx (.inl e))))⟩
structure OPre(X V:World)(ob:Nat)(cd:Int)(u:MSt)(ea:Option Addr)(ec:Nat):Prop where
  blk:V.heap[ob]? = some (.cells #[.int .i64 cd,.int .i64 0,.int .i64 0,.int .i64 (u.far:Int),.slice ea (rgA u.exp).length ec,.int .i64 (u.steps:Int),.int .i64 (u.throws:Int),.slice none 0 0] 36)
  bel:Below X.heap.size X V
  own:∃P,OwnC P V (.slice ea (rgA u.exp).length ec) 1 (rgA u.exp).length (intsV (rgA u.exp))∧∀x,P x→X.heap.size≤x∧x<V.heap.size∧x≠ob∧∀j,V.frozen? ⟨x,j,none⟩=false
  lo:X.heap.size≤ob
theorem opre_first{X W:World}{cd:Int}{u:MSt}{ea:Option Addr}{ec:Nat}(h:∃P,OwnC P W (.slice ea (rgA u.exp).length ec) 1 (rgA u.exp).length (intsV (rgA u.exp))∧∀x,P x→X.drew.heap.size≤x∧x<W.heap.size∧∀j,W.frozen? ⟨x,j,none⟩=false)(hb:Below X.heap.size X W) :
    OPre X (W.alloc (.cells #[.int .i64 cd,.int .i64 0,.int .i64 0,.int .i64 (u.far:Int),.slice ea (rgA u.exp).length ec,.int .i64 (u.steps:Int),.int .i64 (u.throws:Int),.slice none 0 0] 36)) W.heap.size cd u ea ec:=by
  obtain⟨P,ho,hp⟩:=h;refine⟨blk_new W _ _ rfl,bel_tr hb (bel1 _ _),⟨P,ho.on (fun x hx=>(bel1 W _).block x (hp x hx).2.1),fun x hx=>?_⟩,hb.size⟩
  obtain⟨h1,h2,h3⟩:=hp x hx;exact⟨h1,by rw[World.size_alloc];omega,by omega,fun j=>((bel1 W _).frozen (p:=⟨x,j,none⟩) h2).trans (h3 j)⟩
theorem opre_late{X W:World}{o:Obj}{cd:Int}{u:MSt}{ea:Option Addr}{ec:Nat}(h:∃P,OwnC P W (.slice ea (rgA u.exp).length ec) 1 (rgA u.exp).length (intsV (rgA u.exp))∧∀x,P x→(X.alloc o).drew.heap.size≤x∧x<W.heap.size∧∀j,W.frozen? ⟨x,j,none⟩=false)(hb:Below X.heap.size X W){c0 c1 c2 c3 c4 c5 c6 c7:Value}(hk:W.heap[X.heap.size]? = some (.cells #[c0,c1,c2,c3,c4,c5,c6,c7] 36)) :
    OPre X (set8 W X.heap.size (.int .i64 cd) (.int .i64 0) (.int .i64 0) (.int .i64 (u.far:Int)) (.slice ea (rgA u.exp).length ec) (.int .i64 (u.steps:Int)) (.int .i64 (u.throws:Int)) (.slice none 0 0)) X.heap.size cd u ea ec:=by
  obtain⟨P,ho,hp⟩:=h;have hs:(X.alloc o).drew.heap.size=X.heap.size+1:=World.size_alloc _ _;have ho8:=set8_only W X.heap.size (.int .i64 cd) (.int .i64 0) (.int .i64 0) (.int .i64 (u.far:Int)) (.slice ea (rgA u.exp).length ec) (.int .i64 (u.steps:Int)) (.int .i64 (u.throws:Int)) (.slice none 0 0);refine⟨set8_box _ _ _ _ _ _ _ _ hk,below_set8 hb _ _ _ _ _ _ _ _,⟨P,ho.on (fun x hx=>ho8.block x (by have:=(hp x hx).1;omega)),fun x hx=>?_⟩,Nat.le_refl _⟩
  obtain⟨h1,h2,h3⟩:=hp x hx;exact⟨by omega,by rw[ho8.size];exact h2,by omega,fun j=>(World.frozen?_of_block (a:=⟨x,j,none⟩) (ho8.block x (by omega))).trans (h3 j)⟩
theorem outOf_eq{u:MSt}(h:¬(u.code=4∨u.code=3)):outOf u=⟨u.code,if u.code=0∨u.code=2 then (u.pos:Int) else 0,if u.code=2 then u.label else 0,u.far,(rgA u.exp).length,lf (rgA u.exp),u.steps,u.throws,if u.code=0 then u.log.length else 0,fun i=>u.log.getD i ⟨0,0,0⟩⟩:=by
  unfold outOf;rw[if_neg h,rgA_eq]
theorem ownC_lf{P:Nat→Prop}{w:World}{a:Option Addr}{c:Nat}{l:List Int}(h:OwnC P w (.slice a l.length c) 1 l.length (intsV l)):Ints P .i64 w a l.length (lf l):=by
  rcases h with⟨_,e,_⟩|⟨g,cap,e,hq,hl,hc,hcell,hw⟩
  · exact .inl e
  · obtain rfl:a=some ⟨g,0,none⟩:=by injection e
    refine .inr ⟨g,0,rfl,hq,fun i hi=>?_⟩
    have h1:=hcell i (by simp only[intsV,List.length_map];exact hi)
    rw[Nat.zero_add,h1];simp only[intsV,List.getElem?_map,lf,List.getD_eq_getElem?_getD,List.getElem?_eq_getElem hi];rfl
theorem out_end{K L:Nat→Prop}{b:Nat}{u:MSt}{ia:Option Addr}{il ic:Nat}{most:Int}{ka:Option Addr}{kc:Nat}{la:Option Addr}{lc:Nat}{w X V V':World}{ob:Nat}{cd:Int}{ea:Option Addr}{ec:Nat}(hA:MacA K L w b u ia il ic most ka kc la lc)(hX:Below w.heap.size w X)(hxs:w.heap.size<X.heap.size)(hP:OPre X V ob cd u ea ec)(ho:Only (fun x=>x=ob∨x=w.heap.size) V V')(hcd:u.code=cd)(hn:¬(cd=4∨cd=3)){v:Value}{va:Option Addr}{vc:Nat}
    (hv:v=.agg #[.int .i64 cd,.int .i64 (if cd=0∨cd=2 then (u.pos:Int) else 0),.int .i64 (if cd=2 then u.label else 0),.int .i64 (u.far:Int),.slice ea (rgA u.exp).length ec,.int .i64 (u.steps:Int),.int .i64 (u.throws:Int),.slice va (if cd=0 then u.log.length else 0) vc]) (hva:cd=0→va=la∧vc=lc):OutIs u L w (.returned v) V':=by
  subst hcd;obtain⟨P,hO,hp⟩:=hP.own;have hwv:∀x,x<w.heap.size→V'.heap[x]? = w.heap[x]?:=fun x hx=>(ho.block x (fun q=>by have:=hP.lo;rcases q with q | q<;>omega)).trans ((hP.bel.block x (by omega)).trans (hX.block x hx))
  have hvs:w.heap.size≤V'.heap.size:=by have:=hP.bel.size;have:=hX.size;rw[ho.size];omega
  have hpx:∀x,P x→V'.heap[x]? = V.heap[x]?:=fun x hx=>ho.block x (fun q=>by have h1:=(hp x hx).1;have h2:=(hp x hx).2.2.1;rcases q with q | q<;>omega)
  have heq:=outOf_eq hn;generalize rgA u.exp=l at hO hv heq;refine⟨ea,ec,va,vc,P,if u.code=0 then L else fun _=>False,?_,?_,fun x hx=>⟨by have:=(hp x hx).1;omega,by have:=(hp x hx).2.1;rw[ho.size];exact this⟩,fun x hx=>?_,?_⟩
  · rw[heq];subst hv;rfl
  · rw[heq]
    refine⟨(ownC_lf hO).on hpx,fun x j hx=>(World.frozen?_of_block (a:=⟨x,j,none⟩) (hpx x hx)).trans ((hp x hx).2.2.2 j),?_,fun x hx hq=>?_,fun x hx=>?_⟩
    · show EvW _ V' va (if u.code=0 then u.log.length else 0) _
      by_cases h0:u.code=0
      · obtain⟨rfl,rfl⟩:=hva h0
        rw[if_pos h0,if_pos h0];exact (own_evs hA.log).on (fun x hx=>hwv x (hA.lt x (.inr hx)))
      · rw[if_neg h0,if_neg h0];exact .inl rfl
    · have h1:=(hp x hx).1
      by_cases h0:u.code=0
      · rw[if_pos h0]at hq
        have:=hA.lt x (.inr hq);omega
      · rw[if_neg h0]at hq;exact hq
    · rcases hx with q | q
      · have:=(hp x q).2.1;rw[ho.size];exact this
      · by_cases h0:u.code=0
        · rw[if_pos h0]at q
          have:=hA.lt x (.inr q);omega
        · rw[if_neg h0]at q;exact q.elim
  · by_cases h0:u.code=0
    · rw[if_pos h0]at hx;exact .inl hx
    · rw[if_neg h0]at hx;exact hx.elim
  · exact⟨ho.os.trans (hP.bel.os.trans hX.os),ho.tape.trans (hP.bel.tape.trans hX.tape),ho.output.trans (hP.bel.output.trans hX.output),hvs,hwv⟩
set_option maxRecDepth 100000 in
set_option maxHeartbeats 16000000 in
theorem outcome_any(K L:Nat→Prop)(b:Nat)(u:MSt)(ia:Option Addr)(il ic:Nat)(most:Int)(ka:Option Addr)(kc:Nat)(la:Option Addr)(lc:Nat)(w:World)(hA:MacA K L w b u ia il ic most ka kc la lc) :
    Calls Tryz.prog 28 #[.pointer (some ⟨b,0,none⟩),.int .i64 u.code] w (OutIs u L w):=by
  have HA:Hid (MacA K L w b u ia il ic most ka kc la lc):=hA;have lb:=hA.bl;clear hA;obtain⟨cd,hcd⟩:∃cd,u.code=cd:=⟨_,rfl⟩;have HCD:Hid (u.code=cd):=hcd;rw[hcd];clear hcd;by_cases h4:cd=4∨cd=3
  · have HB:Hid (∀w',Below w.heap.size w w'→OutIs u L w (.returned (.agg #[.int .i64 cd,.int .i64 0,.int .i64 0,.int .i64 0,.slice none 0 0,.int .i64 0,.int .i64 0,.slice none 0 0])) w'):=fun w' h=>by
      have:=out_bad (u:=u) (L:=L) (by rw[HCD.out];exact h4) h
      rw[HCD.out]at this;exact this
    rcases h4 with rfl | rfl
    · go_enter Tryz.func28,Tryz.ntmps28
      go_wp2;refine bodyPost_ret (v:=.agg #[.int .i64 4,.int .i64 0,.int .i64 0,.int .i64 0,.slice none 0 0,.int .i64 0,.int .i64 0,.slice none 0 0]) ?_ rfl ?_
      · simp[results,Tryz.f28,go_sem]
      · exact HB.out _ (bel1 w _)
    · go_enter Tryz.func28,Tryz.ntmps28
      go_wp2;refine bodyPost_ret (v:=.agg #[.int .i64 3,.int .i64 0,.int .i64 0,.int .i64 0,.slice none 0 0,.int .i64 0,.int .i64 0,.slice none 0 0]) ?_ rfl ?_
      · simp[results,Tryz.f28,go_sem]
      · exact HB.out _ (bel1 w _)
  · have n4:(cd==4)=false:=by simp;exact fun e=>h4 (.inl e)
    have n3:(cd==3)=false:=by simp;exact fun e=>h4 (.inr e)
    have HN:Hid (¬(cd=4∨cd=3)):=h4;clear h4;go_enter Tryz.func28,Tryz.ntmps28;go_wp2;have hX:=bel1 w (.cells #[.int .i64 0,.int .i64 0,.int .i64 0,.int .i64 0,.slice none 0 0,.int .i64 0,.int .i64 0,.slice none 0 0] 36);have hres:=blk_new w (.cells #[.int .i64 0,.int .i64 0,.int .i64 0,.int .i64 0,.slice none 0 0,.int .i64 0,.int .i64 0,.slice none 0 0] 36) _ rfl;generalize w.alloc (.cells #[.int .i64 0,.int .i64 0,.int .i64 0,.int .i64 0,.slice none 0 0,.int .i64 0,.int .i64 0,.slice none 0 0] 36)=X at *;have HX:Hid (Below w.heap.size w X):=hX;have HRES:Hid (X.heap[w.heap.size]? = some (.cells #[.int .i64 0,.int .i64 0,.int .i64 0,.int .i64 0,.slice none 0 0,.int .i64 0,.int .i64 0,.slice none 0 0] 36)):=hres;have HAX:Hid (MacA K L X b u ia il ic most ka kc la lc):=HA.out.later hX;have c6:=HAX.out.c.c6;have c8:=HAX.out.c.c8;have c9:=HAX.out.c.c9;have lbX:=HAX.out.bl;obtain⟨EX,hEX⟩:∃EX,exL u.exp=EX:=⟨_,rfl⟩;have HEX:Hid (exL u.exp=EX):=hEX;have hrg:X.rangeAt b 7 EX:=hEX▸exL_range HAX.out.c;have hel:EX.length=256:=hEX▸exL_len _;have hun:=Tryz.underlying66;have hin:(Tryz.prog.info? 66).map (·.size)=some EX.length:=by rw[hel];exact arrSize
    have HRG:Hid (∀W,Below X.heap.size X W→Calls Tryz.prog 53 #[.agg EX.toArray,.bool true] W (GivesS (rgA u.exp) W)):=fun W hW=>rangesOfA EX.toArray u.exp W (by simp[hel]) (fun i hi=>by rw[List.getElem?_toArray,←hEX];exact exL_get _ hi)
    have HZ:Hid (∀W,Below X.heap.size X W→W.cell? ⟨b,6,none⟩=some (.int .i64 (u.far:Int))∧W.cell? ⟨b,263,none⟩=some (.int .i64 (u.steps:Int))∧W.cell? ⟨b,264,none⟩=some (.int .i64 (u.throws:Int))∧W.rangeAt b 7 EX):=fun W hW=>⟨cell_on HAX.out.c.c6 hW,cell_on HAX.out.c.c8 hW,cell_on HAX.out.c.c9 hW,fun j v hv=>cell_on (hrg j v hv) hW⟩
    have HXS:Hid (w.heap.size<X.heap.size):=(Array.getElem?_eq_some_iff.1 hres).1;clear hX hres hEX;have HB0:Hid (Below X.heap.size X X):=Below.refl _ _;have HB1:Hid (Below X.heap.size X X.drew):=(Below.refl _ X).drew;have HB2:Hid (Below X.heap.size X (X.alloc (.cells #[.int .i64 0,.int .i64 0,.int .i64 0,.int .i64 0,.slice none 0 0,.int .i64 0,.int .i64 0,.slice none 0 0] 36)).drew):=(bel1 X _).drew;have HG1:Hid (Calls Tryz.prog 53 #[.agg EX.toArray,.bool true] X.drew (GivesS (rgA u.exp) X.drew)):=HRG.out _ HB1.out;have HG2:Hid (Calls Tryz.prog 53 #[.agg EX.toArray,.bool true] (X.alloc (.cells #[.int .i64 0,.int .i64 0,.int .i64 0,.int .i64 0,.slice none 0 0,.int .i64 0,.int .i64 0,.slice none 0 0] 36)).drew (GivesS (rgA u.exp) (X.alloc (.cells #[.int .i64 0,.int .i64 0,.int .i64 0,.int .i64 0,.slice none 0 0,.int .i64 0,.int .i64 0,.slice none 0 0] 36)).drew)):=HRG.out _ HB2.out;clear HRG;go_region_held3 (fun W'=>W'.cell? ⟨b,6,none⟩=some (.int .i64 (u.far:Int))∧W'.cell? ⟨b,263,none⟩=some (.int .i64 (u.steps:Int))∧W'.cell? ⟨b,264,none⟩=some (.int .i64 (u.throws:Int))∧W'.rangeAt b 7 EX)
      (first|(refine HZ.out _ ?_;first|with_reducible exact HBW.out | with_reducible exact HB1.out | with_reducible exact HB2.out | with_reducible exact HB3.out | with_reducible exact HB4.out | with_reducible exact HB0.out))
      (first
        | (go_at_call 53
           with_reducible refine HG1.out.mono ?_
           rintro e W ⟨ea,ec,rfl,hO,hSo⟩;obtain⟨HOW,HBW⟩:=rg_own (X:=X) hO hSo HB1.out;have HB3:Hid (Below X.heap.size X (W.alloc (.cells #[.int .i64 0,.int .i64 0,.int .i64 0,.int .i64 0,.slice none 0 0,.int .i64 0,.int .i64 0,.slice none 0 0] 36))):=bel_tr HBW.out (bel1 _ _);have HB4:Hid (Below X.heap.size X (W.alloc (.cells #[.int .i64 cd,.int .i64 0,.int .i64 0,.int .i64 (u.far:Int),.slice ea (rgA u.exp).length ec,.int .i64 (u.steps:Int),.int .i64 (u.throws:Int),.slice none 0 0] 36))):=bel_tr HBW.out (bel1 _ _);clear hO hSo)
        | (go_at_call 53
           with_reducible refine HG2.out.mono ?_
           rintro e W ⟨ea,ec,rfl,hO,hSo⟩;obtain⟨HOW,HBW⟩:=rg_own (X:=X) hO hSo HB2.out;have HB3:Hid (Below X.heap.size X ((((((((W.setCell ⟨X.heap.size,0,none⟩ (.int .i64 cd)).setCell ⟨X.heap.size,1,none⟩ (.int .i64 0)).setCell ⟨X.heap.size,2,none⟩ (.int .i64 0)).setCell ⟨X.heap.size,3,none⟩ (.int .i64 (u.far:Int))).setCell ⟨X.heap.size,4,none⟩ (.slice ea (rgA u.exp).length ec)).setCell ⟨X.heap.size,5,none⟩ (.int .i64 (u.steps:Int))).setCell ⟨X.heap.size,6,none⟩ (.int .i64 (u.throws:Int))).setCell ⟨X.heap.size,7,none⟩ (.slice none 0 0))):=below_set8 HBW.out _ _ _ _ _ _ _ _;have hblk:=rg_blk (X:=X) (o:=(.cells #[.int .i64 0,.int .i64 0,.int .i64 0,.int .i64 0,.slice none 0 0,.int .i64 0,.int .i64 0,.slice none 0 0] 36)) hO.bel (blk_new X _ _ rfl);have r0:=blk_cell (j:=0) hblk rfl;have v0:=blk_frz (j:=0) hblk;have r1:=blk_cell (j:=1) hblk rfl;have v1:=blk_frz (j:=1) hblk;have r2:=blk_cell (j:=2) hblk rfl;have v2:=blk_frz (j:=2) hblk;have r3:=blk_cell (j:=3) hblk rfl;have v3:=blk_frz (j:=3) hblk;have r4:=blk_cell (j:=4) hblk rfl;have v4:=blk_frz (j:=4) hblk;have r5:=blk_cell (j:=5) hblk rfl;have v5:=blk_frz (j:=5) hblk;have r6:=blk_cell (j:=6) hblk rfl;have v6:=blk_frz (j:=6) hblk;have r7:=blk_cell (j:=7) hblk rfl;have v7:=blk_frz (j:=7) hblk;have HBK:Hid (W.heap[X.heap.size]? = some (.cells #[.int .i64 0,.int .i64 0,.int .i64 0,.int .i64 0,.slice none 0 0,.int .i64 0,.int .i64 0,.slice none 0 0] 36)):=hblk;clear hO hSo hblk))
    all_goals go_goals
    · skip
      have HPRE:Hid (OPre X (W.alloc (.cells #[.int .i64 cd,.int .i64 0,.int .i64 0,.int .i64 (u.far:Int),.slice ea (rgA u.exp).length ec,.int .i64 (u.steps:Int),.int .i64 (u.throws:Int),.slice none 0 0] 36)) W.heap.size cd u ea ec):=opre_first HOW.out HBW.out;clear HOW HB0 HB1 HB2 HB3 HB4 HBW HG1 HG2 HZ;generalize W.alloc (.cells #[.int .i64 cd,.int .i64 0,.int .i64 0,.int .i64 (u.far:Int),.slice ea (rgA u.exp).length ec,.int .i64 (u.steps:Int),.int .i64 (u.throws:Int),.slice none 0 0] 36)=V at *;generalize W.heap.size=ob at *;have HAV:Hid (MacA K L V b u ia il ic most ka kc la lc):=HAX.out.later HPRE.out.bel;have m3:=HAV.out.c.c3;have m5:=HAV.out.c.c5;have m10:=HAV.out.c.c10;have lbV:=HAV.out.bl;have y0:=blk_cell (j:=0) HPRE.out.blk rfl;have q0:=blk_frz (j:=0) HPRE.out.blk;have y1:=blk_cell (j:=1) HPRE.out.blk rfl;have q1:=blk_frz (j:=1) HPRE.out.blk;have y2:=blk_cell (j:=2) HPRE.out.blk rfl;have q2:=blk_frz (j:=2) HPRE.out.blk;have y3:=blk_cell (j:=3) HPRE.out.blk rfl;have q3:=blk_frz (j:=3) HPRE.out.blk;have y4:=blk_cell (j:=4) HPRE.out.blk rfl;have q4:=blk_frz (j:=4) HPRE.out.blk;have y5:=blk_cell (j:=5) HPRE.out.blk rfl;have q5:=blk_frz (j:=5) HPRE.out.blk;have y6:=blk_cell (j:=6) HPRE.out.blk rfl;have q6:=blk_frz (j:=6) HPRE.out.blk;have y7:=blk_cell (j:=7) HPRE.out.blk rfl;have q7:=blk_frz (j:=7) HPRE.out.blk;have lob:ob<V.heap.size:=lt_of_cell y0;have hres:V.heap[w.heap.size]? = some (.cells #[.int .i64 0,.int .i64 0,.int .i64 0,.int .i64 0,.slice none 0 0,.int .i64 0,.int .i64 0,.slice none 0 0] 36):=(HPRE.out.bel.block _ HXS.out).trans HRES.out;have z0:=blk_cell (j:=0) hres rfl;have p0:=blk_frz (j:=0) hres;have z1:=blk_cell (j:=1) hres rfl;have p1:=blk_frz (j:=1) hres;have z2:=blk_cell (j:=2) hres rfl;have p2:=blk_frz (j:=2) hres;have z3:=blk_cell (j:=3) hres rfl;have p3:=blk_frz (j:=3) hres;have z4:=blk_cell (j:=4) hres rfl;have p4:=blk_frz (j:=4) hres;have z5:=blk_cell (j:=5) hres rfl;have p5:=blk_frz (j:=5) hres;have z6:=blk_cell (j:=6) hres rfl;have p6:=blk_frz (j:=6) hres;have z7:=blk_cell (j:=7) hres rfl;have p7:=blk_frz (j:=7) hres;have lwV:w.heap.size<V.heap.size:=lt_of_cell z0;have ne1:ob≠w.heap.size:=by have h1:=HPRE.out.lo;have h2:=HXS.out;omega
      have ne2:b≠ob:=by have h1:=HPRE.out.lo;have h2:=HXS.out;have h3:=HA.out.bl;omega
      have ne3:b≠w.heap.size:=by have h3:=HA.out.bl;omega
      clear hres;have HEND:Hid (∀(V':World) (v:Value) (va:Option Addr) (vc:Nat),Only (fun x=>x=ob∨x=w.heap.size) V V'→v=.agg #[.int .i64 cd,.int .i64 (if cd=0∨cd=2 then (u.pos:Int) else 0),.int .i64 (if cd=2 then u.label else 0),.int .i64 (u.far:Int),.slice ea (rgA u.exp).length ec,.int .i64 (u.steps:Int),.int .i64 (u.throws:Int),.slice va (if cd=0 then u.log.length else 0) vc]→(cd=0→va=la∧vc=lc)→OutIs u L w (.returned v) V'):=fun V' v va vc h1 h2 h3=>out_end HA.out HX.out HXS.out HPRE.out h1 HCD.out HN.out h2 h3
      obtain⟨rn,hrn⟩:∃rn,(rgA u.exp).length=rn:=⟨_,rfl⟩;have HRN:Hid ((rgA u.exp).length=rn):=hrn;have y4':V.cell? ⟨ob,4,none⟩=some (.slice ea rn ec):=by rw[←hrn];exact blk_cell (j:=4) HPRE.out.blk rfl
      rw[hrn];clear hrn y4;by_cases e0:cd=0
      · subst e0
        go_wp2;go_region;all_goals
          go_wp2;refine bodyPost_ret (v:=.agg #[.int .i64 0,.int .i64 (u.pos:Int),.int .i64 0,.int .i64 (u.far:Int),.slice ea rn ec,.int .i64 (u.steps:Int),.int .i64 (u.throws:Int),.slice la u.log.length lc]) ?_ rfl ?_
          · simp[results,Tryz.f28,go_sem, *]
          · exact HEND.out _ _ la lc (only_end2 _ _ _ _ _ _ _ _ _ _ _ _ _ _ _) (by rw[HRN.out];simp) (fun q=>⟨rfl,rfl⟩)
      · have e0':(cd==0)=false:=by simp[e0]
        by_cases e2:cd=2
        · subst e2
          go_wp2;go_region;all_goals
            go_wp2;refine bodyPost_ret (v:=.agg #[.int .i64 2,.int .i64 (u.pos:Int),.int .i64 u.label,.int .i64 (u.far:Int),.slice ea rn ec,.int .i64 (u.steps:Int),.int .i64 (u.throws:Int),.slice none 0 0]) ?_ rfl ?_
            · simp[results,Tryz.f28,go_sem, *]
            · exact HEND.out _ _ none 0 (only_end2 _ _ _ _ _ _ _ _ _ _ _ _ _ _ _) (by rw[HRN.out];simp) (fun q=>absurd q (by decide))
        · have e2':(cd==2)=false:=by simp[e2]
          have HE:Hid (¬cd=0∧¬cd=2):=⟨e0,e2⟩;clear e0 e2;go_wp2;refine bodyPost_ret (v:=.agg #[.int .i64 cd,.int .i64 0,.int .i64 0,.int .i64 (u.far:Int),.slice ea rn ec,.int .i64 (u.steps:Int),.int .i64 (u.throws:Int),.slice none 0 0]) ?_ rfl ?_
          · simp[results,Tryz.f28,go_sem, *]
          · exact HEND.out _ _ none 0 (only_end0 _ _ _ _ _ _ _ _ _ _ _) (by rw[HRN.out];simp[HE.out.1,HE.out.2]) (fun q=>absurd q HE.out.1)
    · skip
      have HPRE':Hid (OPre X (set8 W X.heap.size (.int .i64 cd) (.int .i64 0) (.int .i64 0) (.int .i64 (u.far:Int)) (.slice ea (rgA u.exp).length ec) (.int .i64 (u.steps:Int)) (.int .i64 (u.throws:Int)) (.slice none 0 0)) X.heap.size cd u ea ec):=opre_late HOW.out HBW.out HBK.out;unfold set8 at HPRE';clear HOW HB0 HB1 HB2 HB3 HBW HG1 HG2 HZ HBK r0 r1 r2 r3 r4 r5 r6 r7 v0 v1 v2 v3 v4 v5 v6 v7;generalize ((((((((W.setCell ⟨X.heap.size,0,none⟩ (.int .i64 cd)).setCell ⟨X.heap.size,1,none⟩ (.int .i64 0)).setCell ⟨X.heap.size,2,none⟩ (.int .i64 0)).setCell ⟨X.heap.size,3,none⟩ (.int .i64 (u.far:Int))).setCell ⟨X.heap.size,4,none⟩ (.slice ea (rgA u.exp).length ec)).setCell ⟨X.heap.size,5,none⟩ (.int .i64 (u.steps:Int))).setCell ⟨X.heap.size,6,none⟩ (.int .i64 (u.throws:Int))).setCell ⟨X.heap.size,7,none⟩ (.slice none 0 0))=V at *;obtain⟨ob,hob⟩:∃ob,X.heap.size=ob:=⟨_,rfl⟩;have HPRE:Hid (OPre X V ob cd u ea ec):=by
        have h:=HPRE'.out;rw[hob]at h;exact h
      rw[hob];clear HPRE' hob;have HAV:Hid (MacA K L V b u ia il ic most ka kc la lc):=HAX.out.later HPRE.out.bel;have m3:=HAV.out.c.c3;have m5:=HAV.out.c.c5;have m10:=HAV.out.c.c10;have lbV:=HAV.out.bl;have y0:=blk_cell (j:=0) HPRE.out.blk rfl;have q0:=blk_frz (j:=0) HPRE.out.blk;have y1:=blk_cell (j:=1) HPRE.out.blk rfl;have q1:=blk_frz (j:=1) HPRE.out.blk;have y2:=blk_cell (j:=2) HPRE.out.blk rfl;have q2:=blk_frz (j:=2) HPRE.out.blk;have y3:=blk_cell (j:=3) HPRE.out.blk rfl;have q3:=blk_frz (j:=3) HPRE.out.blk;have y4:=blk_cell (j:=4) HPRE.out.blk rfl;have q4:=blk_frz (j:=4) HPRE.out.blk;have y5:=blk_cell (j:=5) HPRE.out.blk rfl;have q5:=blk_frz (j:=5) HPRE.out.blk;have y6:=blk_cell (j:=6) HPRE.out.blk rfl;have q6:=blk_frz (j:=6) HPRE.out.blk;have y7:=blk_cell (j:=7) HPRE.out.blk rfl;have q7:=blk_frz (j:=7) HPRE.out.blk;have lob:ob<V.heap.size:=lt_of_cell y0;have hres:V.heap[w.heap.size]? = some (.cells #[.int .i64 0,.int .i64 0,.int .i64 0,.int .i64 0,.slice none 0 0,.int .i64 0,.int .i64 0,.slice none 0 0] 36):=(HPRE.out.bel.block _ HXS.out).trans HRES.out;have z0:=blk_cell (j:=0) hres rfl;have p0:=blk_frz (j:=0) hres;have z1:=blk_cell (j:=1) hres rfl;have p1:=blk_frz (j:=1) hres;have z2:=blk_cell (j:=2) hres rfl;have p2:=blk_frz (j:=2) hres;have z3:=blk_cell (j:=3) hres rfl;have p3:=blk_frz (j:=3) hres;have z4:=blk_cell (j:=4) hres rfl;have p4:=blk_frz (j:=4) hres;have z5:=blk_cell (j:=5) hres rfl;have p5:=blk_frz (j:=5) hres;have z6:=blk_cell (j:=6) hres rfl;have p6:=blk_frz (j:=6) hres;have z7:=blk_cell (j:=7) hres rfl;have p7:=blk_frz (j:=7) hres;have lwV:w.heap.size<V.heap.size:=lt_of_cell z0;have ne1:ob≠w.heap.size:=by have h1:=HPRE.out.lo;have h2:=HXS.out;omega
      have ne2:b≠ob:=by have h1:=HPRE.out.lo;have h2:=HXS.out;have h3:=HA.out.bl;omega
      have ne3:b≠w.heap.size:=by have h3:=HA.out.bl;omega
      clear hres;have HEND:Hid (∀(V':World) (v:Value) (va:Option Addr) (vc:Nat),Only (fun x=>x=ob∨x=w.heap.size) V V'→v=.agg #[.int .i64 cd,.int .i64 (if cd=0∨cd=2 then (u.pos:Int) else 0),.int .i64 (if cd=2 then u.label else 0),.int .i64 (u.far:Int),.slice ea (rgA u.exp).length ec,.int .i64 (u.steps:Int),.int .i64 (u.throws:Int),.slice va (if cd=0 then u.log.length else 0) vc]→(cd=0→va=la∧vc=lc)→OutIs u L w (.returned v) V'):=fun V' v va vc h1 h2 h3=>out_end HA.out HX.out HXS.out HPRE.out h1 HCD.out HN.out h2 h3
      obtain⟨rn,hrn⟩:∃rn,(rgA u.exp).length=rn:=⟨_,rfl⟩;have HRN:Hid ((rgA u.exp).length=rn):=hrn;have y4':V.cell? ⟨ob,4,none⟩=some (.slice ea rn ec):=by rw[←hrn];exact blk_cell (j:=4) HPRE.out.blk rfl
      rw[hrn];clear hrn y4;by_cases e0:cd=0
      · subst e0
        go_wp2;go_region;all_goals
          go_wp2;refine bodyPost_ret (v:=.agg #[.int .i64 0,.int .i64 (u.pos:Int),.int .i64 0,.int .i64 (u.far:Int),.slice ea rn ec,.int .i64 (u.steps:Int),.int .i64 (u.throws:Int),.slice la u.log.length lc]) ?_ rfl ?_
          · simp[results,Tryz.f28,go_sem, *]
          · exact HEND.out _ _ la lc (only_end2 _ _ _ _ _ _ _ _ _ _ _ _ _ _ _) (by rw[HRN.out];simp) (fun q=>⟨rfl,rfl⟩)
      · have e0':(cd==0)=false:=by simp[e0]
        by_cases e2:cd=2
        · subst e2
          go_wp2;go_region;all_goals
            go_wp2;refine bodyPost_ret (v:=.agg #[.int .i64 2,.int .i64 (u.pos:Int),.int .i64 u.label,.int .i64 (u.far:Int),.slice ea rn ec,.int .i64 (u.steps:Int),.int .i64 (u.throws:Int),.slice none 0 0]) ?_ rfl ?_
            · simp[results,Tryz.f28,go_sem, *]
            · exact HEND.out _ _ none 0 (only_end2 _ _ _ _ _ _ _ _ _ _ _ _ _ _ _) (by rw[HRN.out];simp) (fun q=>absurd q (by decide))
        · have e2':(cd==2)=false:=by simp[e2]
          have HE:Hid (¬cd=0∧¬cd=2):=⟨e0,e2⟩;clear e0 e2;go_wp2;refine bodyPost_ret (v:=.agg #[.int .i64 cd,.int .i64 0,.int .i64 0,.int .i64 (u.far:Int),.slice ea rn ec,.int .i64 (u.steps:Int),.int .i64 (u.throws:Int),.slice none 0 0]) ?_ rfl ?_
          · simp[results,Tryz.f28,go_sem, *]
          · exact HEND.out _ _ none 0 (only_end0 _ _ _ _ _ _ _ _ _ _ _) (by rw[HRN.out];simp[HE.out.1,HE.out.2]) (fun q=>absurd q HE.out.1)
end
end Go.Proofs.YtcbnnfnlilbjeaaGreat
