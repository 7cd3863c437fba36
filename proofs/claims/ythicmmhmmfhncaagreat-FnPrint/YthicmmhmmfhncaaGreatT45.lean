import Derived.Test.YthicmmhmmfhncaaGreatT04
import Derived.Test.YthicmmhmmfhncaaGreatT44
import Derived.Test.YthicmmhmmfhncaaGreatT41
import Derived.Deep.RegionLaw
import Derived.Deep.RegionWith
set_option linter.unusedVariables false
set_option linter.unusedSimpArgs false
namespace Go.Proofs.YthicmmhmmfhncaaGreat
section
open Go.RowKit
open M (OpD uj Gr TX)
def bv (s : ByteArray) : List Value:=s.data.toList.map (fun b=>Value.int .u8 (b.toNat : Int))
theorem upn (s t : ByteArray) : bv (s ++ t)=bv s ++ bv t:=by simp [bv,ByteArray.data_append]
theorem ud5 (s : ByteArray) : (bv s).length=s.size:=by rw [bv,List.length_map,Array.length_toList];rfl
structure OutQ (Q : Nat→Prop) (w : World) (v : Value) (s : ByteArray) : Prop where
  own:OwnC Q w v 1 s.size (bv s)
  lt:∀ b,Q b→b<w.heap.size
theorem OutQ.nil (w : World) : OutQ (fun _=>False) w (.slice none 0 0) ByteArray.empty:=⟨.inl ⟨rfl,rfl,rfl⟩,fun _ h=>h.elim⟩
theorem OutQ.later {Q : Nat→Prop} {w w' : World} {v : Value} {s : ByteArray} (h : OutQ Q w v s) (k : Below w.heap.size w w') : OutQ Q w' v s :=
  ⟨ud3 h.own (by omega) k,fun b hb=>Nat.lt_of_lt_of_le (h.lt b hb) k.size⟩
theorem OutQ.shape {Q : Nat→Prop} {w : World} {v : Value} {s : ByteArray} (h : OutQ Q w v s) : ∃ a c,v = .slice a s.size c:=by
  rcases h.own with ⟨rfl,e,_⟩ | ⟨g,cap,rfl,_⟩
  · exact ⟨none,0,by rw [e]⟩
  · exact ⟨_,_,rfl⟩
def Gone (Q : Nat→Prop) (w0 w : World) (v : Value) (s : ByteArray) : Prop:=∃ Q' : Nat→Prop,OutQ Q' w v s∧(∀ b,Q' b→Q b∨w0.heap.size≤b)∧Keep Q w0 w
theorem Gone.start {Q : Nat→Prop} {w : World} {v : Value} {s : ByteArray} (h : OutQ Q w v s) : Gone Q w w v s:=⟨Q,h,fun b hb=>.inl hb,Keep.refl _ _⟩
theorem Gone.later {Q : Nat→Prop} {w0 w w' : World} {v : Value} {s : ByteArray} (h : Gone Q w0 w v s) (k : Below w.heap.size w w') : Gone Q w0 w' v s:=by
  obtain ⟨Q',h1,h2,h3⟩:=h
  exact ⟨Q',h1.later k,h2,h3.trans (Keep.of_below k (fun k hk _=>hk))⟩
theorem Gone.size {Q : Nat→Prop} {w0 w : World} {v : Value} {s : ByteArray} (h : Gone Q w0 w v s) : w0.heap.size≤w.heap.size:=by
  obtain ⟨Q',h1,h2,h3⟩:=h
  exact h3.size
theorem Gone.shape {Q : Nat→Prop} {w0 w : World} {v : Value} {s : ByteArray} (h : Gone Q w0 w v s) : ∃ a c,v = .slice a s.size c:=by
  obtain ⟨Q',h1,h2,h3⟩:=h
  exact h1.shape
theorem Gone.keep {Q : Nat→Prop} {w0 w : World} {v : Value} {s : ByteArray} (h : Gone Q w0 w v s) : Keep Q w0 w:=by
  obtain ⟨Q',h1,h2,h3⟩:=h
  exact h3
theorem ufb {Q Q' : Nat→Prop} {w0 w w' : World} (h : Keep Q w0 w) (hq : ∀ b,Q' b→Q b∨w0.heap.size≤b) (k : Keep Q' w w') : Keep Q w0 w' :=
  ⟨k.os.trans h.os,k.tape.trans h.tape,k.output.trans h.output,Nat.le_trans h.size k.size,fun b hb hn=>(k.block b (Nat.lt_of_lt_of_le hb h.size) (fun q=>by
    rcases hq b q with q | q
    · exact hn q
    · omega)).trans (h.block b hb hn)⟩
def uh7 (Q : Nat→Prop) (s t : ByteArray) (w : World) (e : Ending) (w' : World) : Prop:=∃ v,e = .returned v∧Gone Q w w' v (s ++ t)
theorem Gone.call {f : FuncId} {args : Array Value} {Q : Nat→Prop} {w0 w : World} {v : Value} {s t : ByteArray} (h : Gone Q w0 w v s) (hc : ∀ Q',OutQ Q' w v s→(∀ b,Q' b→Q b∨w0.heap.size≤b)→Calls Tryz.prog f args w (uh7 Q' s t w)) :
    Calls Tryz.prog f args w (fun e w'=>∃ a c r,e = .returned (.slice a r.size c)∧Hid (r=s ++ t)∧Hid (r.size=s.size+t.size)∧Hid (Gone Q w0 w' (.slice a r.size c) r)):=by
  obtain ⟨Q',h1,h2,h3⟩:=h
  refine (hc Q' h1 h2).mono ?_
  rintro e w' ⟨v',rfl,Q2,k1,k2,k3⟩
  obtain ⟨a,c,rfl⟩:=k1.shape
  exact ⟨a,c,s ++ t,rfl,rfl,ByteArray.size_append,Q2,k1,fun b hb=>by
    rcases k2 b hb with q | q
    · exact h2 b q
    · exact .inr (Nat.le_trans h3.size q),ufb h3 h2 k3⟩
theorem Grew.keep {Q : Nat→Prop} {w w' : World} (h : Grew Q w w') : Keep Q w w':=⟨h.os,h.tape,h.output,h.size,h.block⟩
theorem upo {Q : Nat→Prop} {w w' : World} {v : Value} {s t : ByteArray} (hQ : ∀ b,Q b→b<w.heap.size) (h : OwnC (fun b=>Q b∨w.heap.size≤b) w' v 1 (s.size+t.size) (bv s ++ bv t)) (g : Grew (fun b=>Q b) w w') (ht : 0<t.size) :
    OutQ (fun b=>(Q b∨w.heap.size≤b)∧b<w'.heap.size) w' v (s ++ t):=by
  refine ⟨?_,fun b hb=>hb.2⟩
  rw [ByteArray.size_append,upn]
  rcases h with ⟨_,e,_⟩ | ⟨x,cap,e,hq,h3,h4,h5,h6⟩
  · omega
  · refine .inr ⟨x,cap,e,⟨hq,?_⟩,h3,h4,h5,h6⟩
    obtain ⟨u,hu⟩:=Option.isSome_iff_exists.1 (h6 0 (by omega)).1
    exact ub hu
theorem ug4 {Q : Nat→Prop} {w0 w w' : World} {v : Value} {s t : ByteArray} {Q' : Nat→Prop} (h1 : OutQ Q' w v s) (h2 : ∀ b,Q' b→Q b∨w0.heap.size≤b) (h3 : Keep Q w0 w) {v' : Value} (k1 : OwnC (fun b=>Q' b∨w.heap.size≤b) w' v' 1 (s.size+t.size) (bv s ++ bv t)) (k2 : Grew (fun b=>Q' b) w w') (ht : 0<t.size) : Gone Q w0 w' v' (s ++ t) :=
  ⟨_,upo h1.lt k1 k2 ht,fun b hb=>by
    rcases hb.1 with q | q
    · exact h2 b q
    · exact .inr (Nat.le_trans h3.size q),ufb h3 h2 k2.keep⟩
theorem xw {ops : Array Oper} {rest : List Oper} {o : Oper} {a : Act} {P' : Exit→Act→World→Prop} {w : World} (hgd : o.guard=none) (s x : Operand) (tx : TypeId) (ho : o.op = .call { callee:=.builtin .append,args:=#[s,x],argTypes:=#[22,tx] })
    {Q:Nat→Prop} {w0:World} {v y:Value} {r t:ByteArray} (hs:a.eval s=v) (hx:a.eval x=y) (hown:Gone Q w0 w v r) (hsrc:Src Tryz.prog 1 tx y t.size (bv t) w) (k m:Nat) (hk:r.size≤k) (hm:t.size≤m) (hlen:k+m≤16777216) (ht:0<t.size)
    (h:∀ w' r' a' c',Hid (r'=r ++ t)→Hid (r'.size≤k+m)→Hid (Gone Q w0 w' (.slice a' r'.size c') r')→wpList Tryz.prog ops P' rest (a.put o.dst (.slice a' r'.size c')) w'):wpList Tryz.prog ops P' (o :: rest) a w:=by
  obtain ⟨Q',h1,h2,h3⟩:=hown
  refine uqi hgd s x 22 tx ho hs hx ufm h1.own hsrc (by omega) (fun _=>ht) ?_
  intro v' w' k1 k2 k3
  have hg:=ug4 h1 h2 h3 k1 k2 ht
  obtain ⟨a',c',rfl⟩:=hg.shape
  exact h w' (r ++ t) a' c' rfl (show _≤_ by rw [ByteArray.size_append];omega) hg
theorem ufV {ops : Array Oper} {o : Oper} {a : Act} {w : World} {K : Act→World→Prop} {P' : Exit→Act→World→Prop} {E : Prop} (hgd : o.guard=none) (s x : Operand) (tx : TypeId) (ho : o.op = .call { callee:=.builtin .append,args:=#[s,x],argTypes:=#[22,tx] })
    {Q:Nat→Prop} {w0:World} {v y:Value} {r t:ByteArray} (hs:a.eval s=v) (hx:a.eval x=y) (hown:Gone Q w0 w v r) (hsrc:Src Tryz.prog 1 tx y t.size (bv t) w) (k m:Nat) (hk:r.size≤k) (hm:t.size≤m) (hlen:k+m≤16777216) (ht:0<t.size)
    (h:∀ w' r' a' c',Hid (r'=r ++ t)→Hid (r'.size≤k+m)→Hid (Gone Q w0 w' (.slice a' r'.size c') r')→K (a.put o.dst (.slice a' r'.size c')) w'):if Region.wanted o (yielded ops a.tmps)=true then Oper.wp Tryz.prog o a w K P' else E:=by
  obtain ⟨Q',h1,h2,h3⟩:=hown
  refine uom hgd s x 22 tx ho hs hx ufm h1.own hsrc (by omega) (fun _=>ht) ?_
  intro v' w' k1 k2 k3
  have hg:=ug4 h1 h2 h3 k1 k2 ht
  obtain ⟨a',c',rfl⟩:=hg.shape
  exact h w' (r ++ t) a' c' rfl (show _≤_ by rw [ByteArray.size_append];omega) hg
theorem xW (w : World) (s : ByteArray) : Src Tryz.prog 1 9 (.string s) s.size (bv s) w:=by
  have e:bv s=Go.byteCells s:=by simp [bv,Go.byteCells]
  rw [e]
  exact Src.ofString w Tryz.underlying9 s
theorem ud6 {w : World} {g n c : Nat} {s : ByteArray} (hn : n=s.size) (h : ∀ j u,(bv s)[j]? = some u→w.cell? ⟨g,j,none⟩=some u) : Src Tryz.prog 1 22 (.slice (some ⟨g,0,none⟩) n c) s.size (bv s) w:=by
  subst hn
  refine Src.ofSlice _ Tryz.underlying22 ⟨g,0,none⟩ s.size c _ (by rw [ud5];omega) (fun j u hu=>?_) (fun u hu=>?_)
  · have e:(⟨g,0,none⟩:Addr).add j=⟨g,j,none⟩:=by
      by_cases h0:j=0
      · subst h0;simp [Addr.add]
      · simp [Addr.add,h0]
    rw [e]
    exact h j u hu
  · obtain ⟨z,_,rfl⟩:=List.mem_map.1 hu
    rfl
theorem vq (w : World) (s : ByteArray) (n c : Nat) (hn : n=s.size) (cs : Array Value) (hcs : cs.toList=bv s) : Src Tryz.prog 1 22 (.slice (some ⟨w.heap.size,0,none⟩) n c) s.size (bv s) (w.alloc (.cells cs 5)):=by
  refine ud6 hn (fun j u hu=>cN w.heap.size rfl ?_)
  rw [← hcs] at hu
  simpa using hu
theorem ump {Q : Nat→Prop} {w : World} {a : Option Addr} {n c : Nat} {T : Nat→Int} (h : Ints Q .u8 w a n T) (hT : Byt n T) : Src Tryz.prog 1 22 (.slice a n c) (str n T).size (bv (str n T)) w:=by
  rcases h with h0 | ⟨b,off,rfl,hq,hc⟩
  · subst h0
    have e:bv (str 0 T) = []:=by rw [← List.length_eq_zero_iff,ud5,yC]
    rw [e,yC]
    cases a with
    | none=>exact Src.ofNil w Tryz.underlying22 c
    | some x=>exact Src.ofSlice w Tryz.underlying22 x 0 c [] rfl (fun j u hu=>by simp at hu) (fun u hu=>by cases hu)
  · have hs:(str n T).size=n:=yC n T
    rw [hs]
    refine Src.ofSlice w Tryz.underlying22 ⟨b,off,none⟩ n c _ (by rw [ud5,hs];omega) (fun j u hu=>?_) (fun u hu=>?_)
    · have hj:j<n:=by
        have:=(List.getElem?_eq_some_iff.1 hu).1
        rw [ud5,hs] at this;exact this
      have e:(⟨b,off,none⟩:Addr).add j=⟨b,off+j,none⟩:=by
        by_cases h0:j=0
        · subst h0;simp [Addr.add]
        · simp [Addr.add,h0]
      rw [e,hc j hj]
      unfold bv at hu
      rw [yU] at hu
      unfold u8s at hu
      simp [hj] at hu
      have h9:=hT j hj
      have e2:((UInt8.ofNat (T j).toNat).toNat:Int)=T j:=by
        rw [UInt8.toNat_ofNat']
        omega
      rw [← hu]
      first | rw [e2] | (have e3:(T j).toNat % 256=(T j).toNat:=by omega
                         simp [e3];omega)
    · obtain ⟨z,_,rfl⟩:=List.mem_map.1 hu
      rfl
end
section
open Go.RowKit
open M (OpD uj Gr TX uq xP)
def unT:ByteArray:=⟨#[48,49,50,51,52,53,54,55,56,57,97,98,99,100,101,102]⟩
theorem ufc{q:Int}(h:0≤q∧q≤15):q=0∨q=1∨q=2∨q=3∨q=4∨q=5∨q=6∨q=7∨q=8∨q=9∨q=10∨q=11∨q=12∨q=13∨q=14∨q=15:=by omega
theorem umq{q:Int}(h:0≤q∧q≤15)(w:World):(Instr.index 9 (.string unT) (.int .i64 q)).run Tryz.prog w=.ok (.int .u8 ((xP q).toNat:Int)) w:=by
 rcases ufc h with h | h | h | h | h | h | h | h | h | h | h | h | h | h | h | h<;>subst h<;>kernel_rfl
theorem uos{b:Int}(h:0≤b∧b≤255):IntKind.u8.wrap b=b:=by
 simp[IntKind.wrap,IntKind.bits,IntKind.signed];omega
theorem uqt{b:Int}(h:0≤b∧b≤255):((UInt8.ofNat b.toNat).toNat:Int)=b:=by
 rw[UInt8.toNat_ofNat'];omega
set_option maxRecDepth 100000 in
set_option maxHeartbeats 8000000 in
theorem vb(Q:Nat→Prop)(v:Value)(r:ByteArray)(b:Int)(w:World)(h:OutQ Q w v r)(hb:0≤b∧b≤255)(hr:r.size≤16000000) :
  Calls Tryz.prog 99 #[v,.int .i64 b] w (uh7 Q r (uq b) w):=by
 have H:Hid (Gone Q w w v r):=Gone.start h;have hb0:=hb.1;have hb1:=hb.2;have HBB:Hid (0≤b∧b≤255):=hb;clear h hb;by_cases e10:b=10
 ·subst e10
  go_enter Tryz.func99,Tryz.ntmps99;go_wp2_with (at_builtin;refine xw rfl _ _ 9 rfl rfl rfl H.out (xW _ ⟨#[92,110]⟩) 16000000 4 hr (by decide) (by omega) (by decide) ?_;intro W r' a' c' E1 E2 E3)
  go_ret;exact⟨_,rfl,E1.out▸E3.out⟩
 by_cases e9:b=9
 ·subst e9
  go_enter Tryz.func99,Tryz.ntmps99;go_wp2_with (at_builtin;refine xw rfl _ _ 9 rfl rfl rfl H.out (xW _ ⟨#[92,116]⟩) 16000000 4 hr (by decide) (by omega) (by decide) ?_;intro W r' a' c' E1 E2 E3)
  go_ret;exact⟨_,rfl,E1.out▸E3.out⟩
 by_cases e13:b=13
 ·subst e13
  go_enter Tryz.func99,Tryz.ntmps99;go_wp2_with (at_builtin;refine xw rfl _ _ 9 rfl rfl rfl H.out (xW _ ⟨#[92,114]⟩) 16000000 4 hr (by decide) (by omega) (by decide) ?_;intro W r' a' c' E1 E2 E3)
  go_ret;exact⟨_,rfl,E1.out▸E3.out⟩
 have f10:(b==10)=false:=by simp[e10]
 have f9:(b==9)=false:=by simp[e9]
 have f13:(b==13)=false:=by simp[e13]
 by_cases e6:b=92∨b=34∨b=91∨b=93∨b=45∨b=94
 ·rcases e6 with rfl | rfl | rfl | rfl | rfl | rfl
  ·have hs0:Hid (Src Tryz.prog 1 22 (.slice (some ⟨w.heap.size,0,none⟩) 2 2) (ByteArray.mk #[92,92]).size (bv ⟨#[92,92]⟩) (w.alloc (.cells #[.int .u8 92,.int .u8 92] 5))):=vq w ⟨#[92,92]⟩ 2 2 rfl _ rfl
   go_enter Tryz.func99,Tryz.ntmps99;go_wp2_with (at_builtin;refine xw (t:=⟨#[92,92]⟩) rfl _ _ 22 rfl rfl rfl (H.out.later (up w _)) hs0.out 16000000 4 hr (by decide) (by omega) (by decide) ?_;intro W r' a' c' E1 E2 E3)
   go_ret;exact⟨_,rfl,E1.out▸E3.out⟩
  ·have hs0:Hid (Src Tryz.prog 1 22 (.slice (some ⟨w.heap.size,0,none⟩) 2 2) (ByteArray.mk #[92,34]).size (bv ⟨#[92,34]⟩) (w.alloc (.cells #[.int .u8 92,.int .u8 34] 5))):=vq w ⟨#[92,34]⟩ 2 2 rfl _ rfl
   go_enter Tryz.func99,Tryz.ntmps99;go_wp2_with (at_builtin;refine xw (t:=⟨#[92,34]⟩) rfl _ _ 22 rfl rfl rfl (H.out.later (up w _)) hs0.out 16000000 4 hr (by decide) (by omega) (by decide) ?_;intro W r' a' c' E1 E2 E3)
   go_ret;exact⟨_,rfl,E1.out▸E3.out⟩
  ·have hs0:Hid (Src Tryz.prog 1 22 (.slice (some ⟨w.heap.size,0,none⟩) 2 2) (ByteArray.mk #[92,91]).size (bv ⟨#[92,91]⟩) (w.alloc (.cells #[.int .u8 92,.int .u8 91] 5))):=vq w ⟨#[92,91]⟩ 2 2 rfl _ rfl
   go_enter Tryz.func99,Tryz.ntmps99;go_wp2_with (at_builtin;refine xw (t:=⟨#[92,91]⟩) rfl _ _ 22 rfl rfl rfl (H.out.later (up w _)) hs0.out 16000000 4 hr (by decide) (by omega) (by decide) ?_;intro W r' a' c' E1 E2 E3)
   go_ret;exact⟨_,rfl,E1.out▸E3.out⟩
  ·have hs0:Hid (Src Tryz.prog 1 22 (.slice (some ⟨w.heap.size,0,none⟩) 2 2) (ByteArray.mk #[92,93]).size (bv ⟨#[92,93]⟩) (w.alloc (.cells #[.int .u8 92,.int .u8 93] 5))):=vq w ⟨#[92,93]⟩ 2 2 rfl _ rfl
   go_enter Tryz.func99,Tryz.ntmps99;go_wp2_with (at_builtin;refine xw (t:=⟨#[92,93]⟩) rfl _ _ 22 rfl rfl rfl (H.out.later (up w _)) hs0.out 16000000 4 hr (by decide) (by omega) (by decide) ?_;intro W r' a' c' E1 E2 E3)
   go_ret;exact⟨_,rfl,E1.out▸E3.out⟩
  ·have hs0:Hid (Src Tryz.prog 1 22 (.slice (some ⟨w.heap.size,0,none⟩) 2 2) (ByteArray.mk #[92,45]).size (bv ⟨#[92,45]⟩) (w.alloc (.cells #[.int .u8 92,.int .u8 45] 5))):=vq w ⟨#[92,45]⟩ 2 2 rfl _ rfl
   go_enter Tryz.func99,Tryz.ntmps99;go_wp2_with (at_builtin;refine xw (t:=⟨#[92,45]⟩) rfl _ _ 22 rfl rfl rfl (H.out.later (up w _)) hs0.out 16000000 4 hr (by decide) (by omega) (by decide) ?_;intro W r' a' c' E1 E2 E3)
   go_ret;exact⟨_,rfl,E1.out▸E3.out⟩
  ·have hs0:Hid (Src Tryz.prog 1 22 (.slice (some ⟨w.heap.size,0,none⟩) 2 2) (ByteArray.mk #[92,94]).size (bv ⟨#[92,94]⟩) (w.alloc (.cells #[.int .u8 92,.int .u8 94] 5))):=vq w ⟨#[92,94]⟩ 2 2 rfl _ rfl
   go_enter Tryz.func99,Tryz.ntmps99;go_wp2_with (at_builtin;refine xw (t:=⟨#[92,94]⟩) rfl _ _ 22 rfl rfl rfl (H.out.later (up w _)) hs0.out 16000000 4 hr (by decide) (by omega) (by decide) ?_;intro W r' a' c' E1 E2 E3)
   go_ret;exact⟨_,rfl,E1.out▸E3.out⟩
 have n92:(b==92)=false:=by simp;exact fun q=>e6 (by omega)
 have n34:(b==34)=false:=by simp;exact fun q=>e6 (by omega)
 have n91:(b==91)=false:=by simp;exact fun q=>e6 (by omega)
 have n93:(b==93)=false:=by simp;exact fun q=>e6 (by omega)
 have n45:(b==45)=false:=by simp;exact fun q=>e6 (by omega)
 have n94:(b==94)=false:=by simp;exact fun q=>e6 (by omega)
 by_cases e7:32≤b∧b≤126
 ·have HT:Hid (uq b=⟨#[UInt8.ofNat b.toNat]⟩):=by
   show _=_;unfold uq;rw[if_neg e10,if_neg e9,if_neg e13,if_neg e6,if_pos e7]
  have h7a:=e7.1;have h7b:=e7.2;have hw8:=uos HBB.out;have hs0:Hid (Src Tryz.prog 1 22 (.slice (some ⟨w.heap.size,0,none⟩) 1 1) (uq b).size (bv (uq b)) (w.alloc (.cells #[.int .u8 b] 5))):=by
   show Src _ _ _ _ _ _ _;rw[HT.out];exact vq w ⟨#[UInt8.ofNat b.toNat]⟩ 1 1 rfl _ (by simp only[bv,List.map_cons,List.map_nil,uqt HBB.out])
  have ht1:Hid ((uq b).size=1):=by show _=_;rw[HT.out];rfl
  clear e10 e9 e13 e6 e7;go_enter Tryz.func99,Tryz.ntmps99;go_wp2_with (at_builtin;refine xw (t:=uq b) rfl _ _ 22 rfl rfl rfl (H.out.later (up w _)) hs0.out 16000000 4 hr (by rw[ht1.out];omega) (by omega) (by rw[ht1.out];omega) ?_;intro W r' a' c' E1 E2 E3)
  go_ret;exact⟨_,rfl,E1.out▸E3.out⟩
 ·have HT:Hid (uq b=⟨#[92,120,xP (b / 16),xP (b%16)]⟩):=by
   show _=_;unfold uq;rw[if_neg e10,if_neg e9,if_neg e13,if_neg e6,if_neg e7]
  have hq:b.tdiv 16=b / 16:=Int.tdiv_eq_ediv_of_nonneg hb0;have hm:b.tmod 16=b%16:=Int.tmod_eq_emod_of_nonneg hb0;have hi1:=umq (q:=b / 16) ⟨by omega,by omega⟩
  have hi2:=umq (q:=b%16) ⟨by omega,by omega⟩
  have hw1:IntKind.i64.wrap (b / 16)=b / 16:=by simp[IntKind.wrap,IntKind.bits,IntKind.signed];omega
  have hw2:IntKind.i64.wrap (b%16)=b%16:=by simp[IntKind.wrap,IntKind.bits,IntKind.signed];omega
  unfold unT at hi1 hi2;obtain⟨d1,hd1⟩:∃d:Int,((xP (b / 16)).toNat:Int)=d:=⟨_,rfl⟩;obtain⟨d2,hd2⟩:∃d:Int,((xP (b%16)).toNat:Int)=d:=⟨_,rfl⟩;rw[hd1]at hi1;rw[hd2]at hi2;have hs0:Hid (∀w:World,Src Tryz.prog 1 22 (.slice (some ⟨w.heap.size,0,none⟩) 4 4) (uq b).size (bv (uq b)) (w.alloc (.cells #[.int .u8 92,.int .u8 120,.int .u8 d1,.int .u8 d2] 5))):=fun w=>by
   rw[HT.out];exact vq w ⟨#[92,120,xP (b / 16),xP (b%16)]⟩ 4 4 rfl _ (by rw[←hd1,←hd2];rfl)
  have ht1:Hid ((uq b).size=4):=by show _=_;rw[HT.out];rfl
  clear hd1 hd2;generalize b / 16=q1 at *;generalize b%16=q2 at *;by_cases e8:32≤b
  ·have e8':¬b≤126:=fun q=>e7 ⟨e8,q⟩
   clear e10 e9 e13 e6 e7;go_enter Tryz.func99,Tryz.ntmps99;go_wp2;go_region_law (refine ufV (t:=uq b) rfl (.tmp 41) (.tmp 48) 22 rfl (v:=v) (y:=.slice (some ⟨w.heap.size,0,none⟩) 4 4) (by simp[Act.eval,Act.put]) (by simp[Act.eval,Act.put]) (H.out.later (up w _).drew) (hs0.out w.drew) 16000000 4 hr (by rw[ht1.out];omega) (by omega) (by rw[ht1.out];omega) ?_;intro W r' a' c' E1 E2 E3)
   all_goals go_goals
   all_goals go_wp2
   all_goals go_ret
   all_goals exact⟨_,rfl,E1.out▸E3.out⟩
  ·clear e10 e9 e13 e6 e7
   go_enter Tryz.func99,Tryz.ntmps99;go_wp2;go_region_law (refine ufV (t:=uq b) rfl (.tmp 41) (.tmp 48) 22 rfl (v:=v) (y:=.slice (some ⟨w.heap.size,0,none⟩) 4 4) (by simp[Act.eval,Act.put]) (by simp[Act.eval,Act.put]) (H.out.later (up w _).drew) (hs0.out w.drew) 16000000 4 hr (by rw[ht1.out];omega) (by omega) (by rw[ht1.out];omega) ?_;intro W r' a' c' E1 E2 E3)
   all_goals go_goals
   all_goals go_wp2
   all_goals go_ret
   all_goals exact⟨_,rfl,E1.out▸E3.out⟩
end
section
open Go.RowKit
open M (OpD uj Gr TX uq xP uO vS yV b1)
def Apart(Qs Q:Nat→Prop)(w:World):Prop:=∀b,Qs b→¬Q b∧b<w.heap.size
theorem Apart.next{Qs Q Q':Nat→Prop}{w w':World}(h:Apart Qs Q w)(k:w.heap.size≤w'.heap.size)(hq:∀b,Q' b→Q b∨w.heap.size≤b):Apart Qs Q' w':=fun b hb =>
  ⟨fun q=>by
    rcases hq b q with q | q
    · exact (h b hb).1 q
    · have:=(h b hb).2;omega,Nat.lt_of_lt_of_le (h b hb).2 k⟩
theorem Apart.stay{Qs Q:Nat→Prop}{w w':World}(h:Apart Qs Q w)(k:Keep Q w w'):Stay Qs w w':=fun b hb=>k.block b (h b hb).2 (h b hb).1
theorem uci{C:Nat→Prop}{W W':World}(h:Below W.heap.size W W'):Keep C W W':=Keep.of_below h (fun k hk _=>hk)
def eqI(w:World)(n:Nat)(S T:Nat→Int)(iv:Value)(wr:World):Prop:=∃k:Nat,k≤n∧iv=.int .i64 (k:Int)∧(∀i,i<k→S i=T i)∧Below w.heap.size w wr
set_option maxRecDepth 100000 in
set_option maxHeartbeats 4000000 in
theorem uj7(Q Q':Nat→Prop)(a a':Option Addr)(n m c c':Nat)(S T:Nat→Int)(w:World)(h:Ints Q .i64 w a n S)(h':Ints Q' .i64 w a' m T)(hn:n≤1048576) :
    Calls Tryz.prog 98 #[.slice a n c,.slice a' m c'] w (yT (n=m∧∀i,i<n→S i=T i) w):=by
  have H:Hid (Ints Q .i64 w a n S):=h;have H':Hid (Ints Q' .i64 w a' m T):=h';clear h h';by_cases e:n=m
  · subst e
    go_enter Tryz.func98,Tryz.ntmps98;go_wp2;go_loopw [13] (fun iv wr=>eqI w n S T iv wr) (fun iv _=>n-(intOf iv).toNat)
    case atStart=>exact⟨0,Nat.zero_le _,rfl,fun i hi=>absurd hi (Nat.not_lt_zero _),Below.refl _ _⟩
    case round =>
      obtain⟨k,hk,rfl,hsame,hbel⟩:=hrel;have HS:Hid (∀i,i<k→S i=T i):=hsame;have HB:Hid (Below w.heap.size w wr):=hbel;clear hsame hbel;by_cases hlt:k<n
      · rcases H.out with q | ⟨b,off,rfl,hq,hc⟩
        · omega
        rcases H'.out with q | ⟨b',off',rfl,hq',hc'⟩
        · omega
        have x0:=ug (hc k hlt) HB.out;have y0:=ug (hc' k hlt) HB.out;clear hc hc' hq hq';by_cases hst:S k=T k
        · have HST:Hid (S k=T k):=hst
          go_wp2;go_region;go_wp2;go_roundw
          case rel=>exact⟨k+1,by omega,by go_num,fun i hi=>if e:i=k then e▸HST.out else HS.out i (by omega),HB.out.drew⟩
          case measure=>simp[intOf];omega
        · have HST:Hid (¬S k=T k):=hst
          have f:(S k != T k)=true:=by simp[hst]
          go_wp2;go_region;go_wp2;go_ret;refine⟨⟨_,rfl,?_⟩,HB.out.drew⟩;constructor
          · intro q;cases q
          · rintro⟨_,q⟩;exact absurd (q k hlt) HST.out
      · obtain rfl:k=n:=by omega
        go_wp2;go_ret;exact⟨⟨_,rfl,fun _=>⟨by trivial,HS.out⟩,fun _=>rfl⟩,HB.out⟩
  · have f:((n:Int) != (m:Int))=true:=by simp;omega
    have HE:Hid (¬n=m):=e;clear e;go_enter Tryz.func98,Tryz.ntmps98;go_wp2;go_ret;refine⟨⟨_,rfl,?_⟩,Below.refl _ _⟩;constructor
    · intro q;cases q
    · rintro⟨q,_⟩;exact absurd q HE.out
theorem jH{P:Program}{ops:Array Oper}{o:Oper}{a:Act}{w:World}{K:Act→World→Prop}{P':Exit→Act→World→Prop}{E:Prop}{f:FuncId}(hf:∀args w,(callFunc f args).run P w=.ok (.enter f args) w)(hgd:o.guard=none)(x1 x2:Operand)(t1 t2:TypeId)
    (ho:o.op=.call { callee:=.value (.func f),args:=#[x1,x2],argTypes:=#[t1,t2] }) {y1 y2:Value} (hx1:a.eval x1=y1) (hx2:a.eval x2=y2) (h:Calls P f #[y1,y2] w (fun e w'=>∃u,e=.returned u∧K (a.put o.dst u) w')):if Region.wanted o (yielded ops a.tmps)=true then Oper.wp P o a w K P' else E:=by
  have hw:Region.wanted o (yielded ops a.tmps)=true:=by simp[Region.wanted,hgd]
  rw[if_pos hw];have hrun:(execOp a.eval o).run P w=.ok (.enter f #[y1,y2]) w:=by
    have e:a.eval (.func f)=.func (.func f) #[] #[]:=rfl;unfold execOp;simp only[ho,resolve,invoke,Deferred.ofValue,Sem.run_bind,Sem.run_pure,Result.andThen_ok,List.map_toArray,List.map_cons,List.map_nil,hx1,hx2,e];exact hf #[y1,y2] w
  unfold Oper.wp;rw[hrun];refine Calls.mono h ?_;rintro e w' ⟨u,rfl,hk⟩;exact hk
theorem un1(args:Array Value)(w:World):(callFunc 99 args).run Tryz.prog w=.ok (.enter 99 args) w:=by
  simp[callFunc,Tryz.func99,Tryz.f99,go_sem]
theorem kO{n:Nat}{S:Nat→Int}(h:M.Canon n S){k:Nat}(hk:2*k+1<n):(0≤S (2*k)∧S (2*k)≤255)∧(0≤S (2*k+1)∧S (2*k+1)≤255):=by
  obtain⟨h1,h2⟩:=h;obtain⟨q,rfl⟩:∃q,n=2*q:=⟨n / 2,by omega⟩
  have hp:=(M.pairs_canon S q).2 h2;have key:∀j,j<q→0≤S (2*j):=by
    intro j;induction j with
    |zero=>intro hj;have:=(hp 0 hj).1;simp[M.least]at this;simpa using this
    |succ j ih =>
      intro hj;have a:=ih (by omega)
      have b:=(hp j (by omega)).2.1
      have c:=(hp (j+1) hj).1;unfold M.least at c;rw[if_neg (by omega),show 2*(j+1)-1=2*j+1 by omega]at c
      omega
  have a:=key k (by omega)
  have b:=hp k (by omega)
  have b1:=b.2.1;have b2:=b.2.2;exact⟨⟨a,by omega⟩,⟨by omega,b2⟩⟩
def uqd(Q:Nat→Prop)(w0:World)(r:ByteArray)(S:Nat→Int)(n:Nat)(ov iv:Value)(wr:World):Prop :=
  ∃(k:Nat) (s:ByteArray),2*k≤n∧iv=.int .i64 ((2*k:Nat):Int)∧s=r++b1 91++vS S k∧Gone Q w0 wr ov s
theorem Apart.gone{Qs Q:Nat→Prop}{w0 w:World}{v:Value}{s:ByteArray}(h:Apart Qs Q w0)(g:Gone Q w0 w v s):Stay Qs w0 w:=h.stay g.keep
set_option maxRecDepth 100000 in
set_option maxHeartbeats 8000000 in
theorem uey(Q Qs:Nat→Prop)(a:Option Addr)(n c:Nat)(S:Nat→Int)(v:Value)(r:ByteArray)(w:World)(h:OutQ Q w v r)(hS:Ints Qs .i64 w a n S)(hq:Apart Qs Q w)(hC:M.Canon n S)(hr:r.size≤15000000) :
    Calls Tryz.prog 80 #[v,.slice a n c] w (uh7 Q r (yV n S) w):=by
  have H:Hid (Gone Q w w v r):=Gone.start h;have HS:Hid (Ints Qs .i64 w a n S):=hS;have HQ:Hid (Apart Qs Q w):=hq;have HC:Hid (M.Canon n S):=hC;have hn:=M.canon_len hC;obtain⟨va,vc,hv⟩:=h.shape;have hev:=hC.1;clear h hS hq hC;subst hv;have hone:∀(W:World) (x:UInt8) (z:Int),z=(x.toNat:Int)→Src Tryz.prog 1 22 (.slice (some ⟨W.heap.size,0,none⟩) 1 1) (b1 x).size (bv (b1 x)) (W.alloc (.cells #[.int .u8 z] 5)):=fun W x z hz=>vq W (b1 x) 1 1 rfl _ (by subst hz;rfl)
  have HONE:Hid (∀(W:World) (x:UInt8) (z:Int),z=(x.toNat:Int)→Src Tryz.prog 1 22 (.slice (some ⟨W.heap.size,0,none⟩) 1 1) (b1 x).size (bv (b1 x)) (W.alloc (.cells #[.int .u8 z] 5))):=hone;clear hone;have B1:Hid (Below w.heap.size w (w.alloc (.cells #[.int .i64 0,.int .i64 255] 3))):=up w _;have T2:Hid (Ints (fun _=>True) .i64 (w.alloc (.cells #[.int .i64 0,.int .i64 255] 3)) (some ⟨w.heap.size,0,none⟩) 2 (fun i=>if i=0 then 0 else 255)):=.inr ⟨w.heap.size,0,rfl,trivial,fun i hi=>by
    rcases (show i=0∨i=1 by omega) with rfl | rfl
    · exact cN w.heap.size rfl rfl
    · exact cN w.heap.size rfl rfl⟩
  go_enter Tryz.func80,Tryz.ntmps80;go_wp2_with fail;refine (uj7 Qs (fun _=>True) a (some ⟨w.heap.size,0,none⟩) n 2 c 2 S (fun i=>if i=0 then 0 else 255) _ (HS.out.later B1.out) T2.out (by omega)).mono ?_
  rintro e W1 ⟨⟨b,rfl,hb⟩,hbel⟩;have BW:Hid (Below w.heap.size w W1):=uh B1.out hbel;have HO1:Hid (Gone Q w W1 (.slice va r.size vc) r):=H.out.later BW.out;have HBI:Hid (b=true↔(n=2∧S 0=0∧S 1=255)):=by
    rw[hb];constructor
    · rintro⟨q1,q2⟩;subst q1;exact⟨rfl,by simpa using q2 0 (by omega),by simpa using q2 1 (by omega)⟩
    · rintro⟨q1,q2,q3⟩
      refine⟨q1,fun i hi=>?_⟩
      rcases (show i=0∨i=1 by omega) with rfl | rfl
      · simpa using q2
      · simpa using q3
  clear hb hbel T2 B1 H;cases b with
  |true =>
    have HT:Hid (yV n S=b1 46):=by show _=_;unfold yV;rw[if_pos (HBI.out.1 rfl)]
    go_wp2_with (at_builtin;refine xw (t:=b1 46) rfl _ _ 22 rfl rfl rfl (HO1.out.later (up W1 _)) (HONE.out W1 46 46 rfl) 15000000 4 hr (by decide) (by omega) (by decide) ?_;intro W r' a' c' E1 E2 E3)
    go_ret;exact⟨_,rfl,by rw[HT.out];exact E1.out▸E3.out⟩
  |false =>
    have HNB:Hid (¬(n=2∧S 0=0∧S 1=255)):=fun q=>by have:=HBI.out.2 q;cases this
    clear HBI;by_cases e2:n=2∧S 0=S 1
    · obtain⟨rfl,h01⟩:=e2
      have HT:Hid (yV 2 S=b1 34++uq (S 0)++b1 34):=by show _=_;unfold yV;rw[if_neg HNB.out,if_pos ⟨rfl,h01⟩]
      have hbd:=(kO HC.out (k:=0) (by omega)).1
      have HBD:Hid (0≤S 0∧S 0≤255):=by show 0≤S 0∧S 0≤255;simpa using hbd
      have f01:(S 0==S 1)=true:=by simp[h01]
      rcases HS.out with q | ⟨sb,so,rfl,hqs,hc⟩
      · omega
      have C0:Hid (w.cell? ⟨sb,so,none⟩=some (.int .i64 (S 0))):=hc 0 (by omega)
      have c0:=ug (hc 0 (by omega)) BW.out
      have c1:=ug (hc 1 (by omega)) BW.out
      have HQB:Hid (¬Q sb):=(HQ.out sb hqs).1;have HT1:Hid ((uq (S 0)).size≤4):=M.byteT_size _;clear hbd hc hqs h01;simp only[Nat.add_zero]at c0;have d0:(W1.alloc (.cells #[.int .u8 34] 5)).cell? ⟨sb,so,none⟩=some (.int .i64 (S 0)):=vp _ c0;have lsb:sb<W1.heap.size:=ub c0;go_wp2;go_region;go_wp2;go_region_law (first
        | (refine ufV (t:=b1 34) rfl (.tmp 26) (.tmp 27) 22 rfl (v:=.slice va r.size vc) (y:=.slice (some ⟨W1.heap.size,0,none⟩) 1 1) (by simp[Act.eval,Act.put]) (by simp[Act.eval,Act.put]) (HO1.out.later (up W1 _).drew.drew) (HONE.out W1.drew.drew 34 34 rfl) 15000000 4 hr (by decide) (by omega) (by decide) ?_
           intro W r' a' c' E1 E2 E3;have y0:W.cell? ⟨sb,so,none⟩=some (.int .i64 (S 0)):=(E3.out.keep.cell (p:=⟨sb,so,none⟩) (ub C0.out) HQB.out).trans C0.out)
        | (refine jH un1 rfl (.tmp 28) (.tmp 31) 22 3 rfl (y1:=.slice a' r'.size c') (y2:=.int .i64 (S 0)) (by simp[Act.eval,Act.put]) (by simp[Act.eval,Act.put]) ((E3.out.call (fun Q' ho hq'=>vb Q' (.slice a' r'.size c') r' (S 0) W ho HBD.out (by have:=E2.out;omega))).mono ?_)
           rintro e W2 ⟨a2,c2,r2,rfl,F1,F2,F3⟩;refine⟨_,rfl,?_⟩))
      all_goals go_goals
      all_goals go_wp2_with (at_builtin;refine xw (t:=b1 34) rfl _ _ 22 rfl rfl rfl (F3.out.later (up W2 _)) (HONE.out W2 34 34 rfl) 15000010 4 (by have:=F2.out;have:=E2.out;have:=HT1.out;omega) (by decide) (by omega) (by decide) ?_;intro W3 r3 a3 c3 G1 G2 G3)
      all_goals go_ret
      all_goals exact⟨_,rfl,by rw[HT.out,←ByteArray.append_assoc,←ByteArray.append_assoc,←E1.out,←F1.out,←G1.out];exact G3.out⟩
    · have HT:Hid (yV n S=b1 91++vS S (n / 2)++b1 93):=by show _=_;unfold yV;rw[if_neg HNB.out,if_neg e2]
      by_cases hn2:n=2
      · subst hn2
        have h01:¬S 0=S 1:=fun q=>e2 ⟨rfl,q⟩
        have f01:(S 0==S 1)=false:=by simp[h01]
        rcases HS.out with q | ⟨sb0,so0,rfl,hqs,hc⟩
        · omega
        have x0:=ug (hc 0 (by omega)) BW.out
        have x1:=ug (hc 1 (by omega)) BW.out
        simp only[Nat.add_zero]at x0;clear hc hqs h01 e2;go_wp2;go_region;go_wp2_with (at_builtin;refine xw (t:=b1 91) rfl _ _ 22 rfl rfl rfl (HO1.out.later (up W1 _).drew) (HONE.out W1.drew 91 91 rfl) 15000000 4 hr (by decide) (by omega) (by decide) ?_;intro W r' a' c' E1 E2 E3)
        clear HO1;go_loopw [0,5] (fun ov iv wr=>uqd Q w r S 2 ov iv wr) (fun _ iv _=>2-(intOf iv).toNat)
        case atStart=>exact⟨0,r',by omega,rfl,by rw[E1.out,vS,ByteArray.append_empty],E3.out⟩
        case round =>
          obtain⟨k,s,hk,rfl,hs,hg⟩:=hrel;obtain⟨oa,oc,rfl⟩:=hg.shape;have HG:Hid (Gone Q w wr (.slice oa s.size oc) s):=hg;have HSS:Hid (s=r++b1 91++vS S k):=hs;have hsz:s.size≤15002000:=by
            have h3:=M.midT_size S k;rw[hs,ByteArray.size_append,ByteArray.size_append,M.b1_size];omega
          clear hs hg E1 E2 E3;by_cases hlt:2*k<2
          · obtain⟨hb1,hb2⟩:=kO HC.out (k:=k) (by omega)
            have HB1:Hid (0≤S (2*k)∧S (2*k)≤255):=hb1;have HB2:Hid (0≤S (2*k+1)∧S (2*k+1)≤255):=hb2;have hle:S (2*k)≤S (2*k+1):=by
              have:=(M.pairs_canon S (2 / 2)).2 (by have:=HC.out.2;intro i hi;exact this i (by omega)) k (by omega)
              exact this.2.1
            rcases (HS.out.on (HQ.out.gone HG.out)) with q | ⟨sb,so,hae,hqs,hc⟩
            · omega
            cases hae
            have c0:=hc (2*k) hlt;have c1:=hc (2*k+1) (by omega)
            have lsb:sb0<wr.heap.size:=ub c0;have t1:=M.byteT_size (S (2*k));have t2:=M.byteT_size (S (2*k+1));have HMID:Hid (vS S (k+1)=vS S k++uO (S (2*k)) (S (2*k+1))):=rfl;have hdx2:2*k+1<2:=by omega
            have k0:=hb1.1;have k1:=hb1.2;have k2:=hb2.1;have k3:=hb2.2;clear hc hqs hb1 hb2;generalize S (2*k)=lo at *;generalize S (2*k+1)=hi at *;generalize hkk:2*k=kk at *;have HKK:Hid (2*k=kk):=hkk;clear hkk;go_wp2;go_region;go_wp2_with fail;refine ((HG.out.later (Below.refl _ wr).drew).call (fun Q' ho hq'=>vb Q' _ s lo _ ho HB1.out (by omega))).mono ?_
            rintro e W2 ⟨a2,c2,r2,rfl,F1,F2,F3⟩;have z2:Hid (r2.size≤15002004):=by show _≤_;have:=F2.out;omega
            by_cases hA:lo+1<hi
            · have HP:Hid (uO lo hi=uq lo++b1 45++uq hi):=by show _=_;unfold uO;rw[if_pos hA,if_pos (by omega)]
              have hA2:lo<hi:=by omega
              go_wp2_with (first|(at_builtin;refine xw (t:=b1 45) rfl _ _ 22 rfl rfl rfl (F3.out.later (up W2 _)) (HONE.out W2 45 45 rfl) 15002004 4 z2.out (by decide) (by omega) (by decide) ?_;intro W3 r3 a3 c3 G1 G2 G3)|(go_at_call 99;refine (G3.out.call (fun Q' ho hq'=>vb Q' _ r3 hi _ ho HB2.out (by have:=G2.out;omega))).mono ?_;rintro e W4 ⟨a4,c4,r4,rfl,J1,J2,J3⟩))
              go_roundw
              case rel=>exact⟨k+1,r4,by have:=HKK.out;omega,by have:=HKK.out;first|go_num|(congr 1;omega),by rw[J1.out,G1.out,F1.out,HSS.out,HMID.out,HP.out];simp only[ByteArray.append_assoc],J3.out⟩
              case measure=>simp[intOf];omega
            · by_cases hB:lo<hi
              · have HP:Hid (uO lo hi=uq lo++uq hi):=by show _=_;unfold uO;rw[if_neg hA,if_pos hB,ByteArray.append_empty]
                go_wp2_with fail;refine (F3.out.call (fun Q' ho hq'=>vb Q' _ r2 hi _ ho HB2.out (by have:=z2.out;omega))).mono ?_
                rintro e W4 ⟨a4,c4,r4,rfl,J1,J2,J3⟩;go_wp2;go_roundw
                case rel=>exact⟨k+1,r4,by have:=HKK.out;omega,by have:=HKK.out;first|go_num|(congr 1;omega),by rw[J1.out,F1.out,HSS.out,HMID.out,HP.out];simp only[ByteArray.append_assoc],J3.out⟩
                case measure=>simp[intOf];omega
              · have HP:Hid (uO lo hi=uq lo):=by show _=_;unfold uO;rw[if_neg hA,if_neg hB,ByteArray.append_empty,ByteArray.append_empty]
                go_wp2;go_roundw
                case rel=>exact⟨k+1,r2,by have:=HKK.out;omega,by have:=HKK.out;first|go_num|(congr 1;omega),by rw[F1.out,HSS.out,HMID.out,HP.out];simp only[ByteArray.append_assoc],F3.out⟩
                case measure=>simp[intOf];omega
          · have hkn:2*k=2:=by omega
            have HKN:Hid (k=2 / 2):=by show _=_;omega
            clear hkn;go_wp2_with (at_builtin;refine xw (t:=b1 93) rfl _ _ 22 rfl rfl rfl (HG.out.later (up wr _)) (HONE.out wr 93 93 rfl) 15002000 4 hsz (by decide) (by omega) (by decide) ?_;intro W3 r3 a3 c3 G1 G2 G3)
            go_ret;exact⟨_,rfl,by rw[HT.out,←HKN.out,←ByteArray.append_assoc,←ByteArray.append_assoc,←HSS.out,←G1.out];exact G3.out⟩
      · have f2:((n:Int)==2)=false:=by simp;omega
        clear e2;go_wp2;go_region;go_wp2_with (at_builtin;refine xw (t:=b1 91) rfl _ _ 22 rfl rfl rfl (HO1.out.later (up W1 _).drew) (HONE.out W1.drew 91 91 rfl) 15000000 4 hr (by decide) (by omega) (by decide) ?_;intro W r' a' c' E1 E2 E3)
        clear HO1;go_loopw [0,5] (fun ov iv wr=>uqd Q w r S n ov iv wr) (fun _ iv _=>n-(intOf iv).toNat)
        case atStart=>exact⟨0,r',by omega,rfl,by rw[E1.out,vS,ByteArray.append_empty],E3.out⟩
        case round =>
          obtain⟨k,s,hk,rfl,hs,hg⟩:=hrel;obtain⟨oa,oc,rfl⟩:=hg.shape;have HG:Hid (Gone Q w wr (.slice oa s.size oc) s):=hg;have HSS:Hid (s=r++b1 91++vS S k):=hs;have hsz:s.size≤15002000:=by
            have h3:=M.midT_size S k;rw[hs,ByteArray.size_append,ByteArray.size_append,M.b1_size];omega
          clear hs hg E1 E2 E3;by_cases hlt:2*k<n
          · obtain⟨hb1,hb2⟩:=kO HC.out (k:=k) (by omega)
            have HB1:Hid (0≤S (2*k)∧S (2*k)≤255):=hb1;have HB2:Hid (0≤S (2*k+1)∧S (2*k+1)≤255):=hb2;have hle:S (2*k)≤S (2*k+1):=by
              have:=(M.pairs_canon S (n / 2)).2 (by have:=HC.out.2;intro i hi;exact this i (by omega)) k (by omega)
              exact this.2.1
            rcases (HS.out.on (HQ.out.gone HG.out)) with q | ⟨sb,so,hae,hqs,hc⟩
            · omega
            cases hae
            have c0:=hc (2*k) hlt;have c1:=hc (2*k+1) (by omega)
            have lsb:sb<wr.heap.size:=ub c0;have t1:=M.byteT_size (S (2*k));have t2:=M.byteT_size (S (2*k+1));have HMID:Hid (vS S (k+1)=vS S k++uO (S (2*k)) (S (2*k+1))):=rfl;have hdx2:2*k+1<n:=by omega
            have k0:=hb1.1;have k1:=hb1.2;have k2:=hb2.1;have k3:=hb2.2;clear hc hqs hb1 hb2;generalize S (2*k)=lo at *;generalize S (2*k+1)=hi at *;generalize hkk:2*k=kk at *;have HKK:Hid (2*k=kk):=hkk;clear hkk;go_wp2;go_region;go_wp2_with fail;refine ((HG.out.later (Below.refl _ wr).drew).call (fun Q' ho hq'=>vb Q' _ s lo _ ho HB1.out (by omega))).mono ?_
            rintro e W2 ⟨a2,c2,r2,rfl,F1,F2,F3⟩;have z2:Hid (r2.size≤15002004):=by show _≤_;have:=F2.out;omega
            by_cases hA:lo+1<hi
            · have HP:Hid (uO lo hi=uq lo++b1 45++uq hi):=by show _=_;unfold uO;rw[if_pos hA,if_pos (by omega)]
              have hA2:lo<hi:=by omega
              go_wp2_with (first|(at_builtin;refine xw (t:=b1 45) rfl _ _ 22 rfl rfl rfl (F3.out.later (up W2 _)) (HONE.out W2 45 45 rfl) 15002004 4 z2.out (by decide) (by omega) (by decide) ?_;intro W3 r3 a3 c3 G1 G2 G3)|(go_at_call 99;refine (G3.out.call (fun Q' ho hq'=>vb Q' _ r3 hi _ ho HB2.out (by have:=G2.out;omega))).mono ?_;rintro e W4 ⟨a4,c4,r4,rfl,J1,J2,J3⟩))
              go_roundw
              case rel=>exact⟨k+1,r4,by have:=HKK.out;omega,by have:=HKK.out;first|go_num|(congr 1;omega),by rw[J1.out,G1.out,F1.out,HSS.out,HMID.out,HP.out];simp only[ByteArray.append_assoc],J3.out⟩
              case measure=>simp[intOf];omega
            · by_cases hB:lo<hi
              · have HP:Hid (uO lo hi=uq lo++uq hi):=by show _=_;unfold uO;rw[if_neg hA,if_pos hB,ByteArray.append_empty]
                go_wp2_with fail;refine (F3.out.call (fun Q' ho hq'=>vb Q' _ r2 hi _ ho HB2.out (by have:=z2.out;omega))).mono ?_
                rintro e W4 ⟨a4,c4,r4,rfl,J1,J2,J3⟩;go_wp2;go_roundw
                case rel=>exact⟨k+1,r4,by have:=HKK.out;omega,by have:=HKK.out;first|go_num|(congr 1;omega),by rw[J1.out,F1.out,HSS.out,HMID.out,HP.out];simp only[ByteArray.append_assoc],J3.out⟩
                case measure=>simp[intOf];omega
              · have HP:Hid (uO lo hi=uq lo):=by show _=_;unfold uO;rw[if_neg hA,if_neg hB,ByteArray.append_empty,ByteArray.append_empty]
                go_wp2;go_roundw
                case rel=>exact⟨k+1,r2,by have:=HKK.out;omega,by have:=HKK.out;first|go_num|(congr 1;omega),by rw[F1.out,HSS.out,HMID.out,HP.out];simp only[ByteArray.append_assoc],F3.out⟩
                case measure=>simp[intOf];omega
          · have hkn:2*k=n:=by omega
            have HKN:Hid (k=n / 2):=by show _=_;omega
            clear hkn;go_wp2_with (at_builtin;refine xw (t:=b1 93) rfl _ _ 22 rfl rfl rfl (HG.out.later (up wr _)) (HONE.out wr 93 93 rfl) 15002000 4 hsz (by decide) (by omega) (by decide) ?_;intro W3 r3 a3 c3 G1 G2 G3)
            go_ret;exact⟨_,rfl,by rw[HT.out,←HKN.out,←ByteArray.append_assoc,←ByteArray.append_assoc,←HSS.out,←G1.out];exact G3.out⟩
end
end Go.Proofs.YthicmmhmmfhncaaGreat
