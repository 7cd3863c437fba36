import Derived.Test.YthicmmhmmfhncaaGreatT18
import Derived.Maps.OwnSet
import Derived.Maps.OwnOps
import Derived.Shelf.Small.Strs
import Derived.Shelf.SlMaps.Clone
import Derived.Shelf.SlIter.Nil
import Derived.Shelf.SortM.Plain
import Derived.Shelf.SortM.SortNone
import Derived.Ground.GgzProg
import Derived.Ground.SlgmProg
import Derived.Ground.SlmcProg
import Derived.Test.YthicmmhmmfhncaaGreatProg
set_option linter.unusedVariables false
set_option linter.unusedSimpArgs false
namespace Go.Proofs.YthicmmhmmfhncaaGreat
section
open Go.RowKit
open M (OpD uj Gr)
theorem uhv:Go.Maps.Keyed Tryz.prog 9:=Go.Maps.string_keyed Tryz.underlying9
theorem zero3(w:World):(zeroValue 3).run Tryz.prog w=.ok (.int .i64 0) w:=by kernel_rfl
def xT(z:List Int):Lit:=.string (str z.length (lf z)).data.toList
theorem ugc(z:List Int):WideAt.IsKeyLit (xT z):=trivial
theorem uhw(z:List Int)(h:z.length≤1000000):keyOf Tryz.prog 9 (.string (str z.length (lf z)))=some (xT z):=Go.WideMaps.keyOf_string_mk Tryz.underlying9 (by rw[yC];unfold maxLen;omega)
theorem udp{y z:List Int}(hy:BytL y)(hz:BytL z)(h:xT y=xT z):y=z:=by
 unfold xT at h;injection h with h
 refine (ujT hy hz).1 ?_;generalize str y.length (lf y)=p at *;generalize str z.length (lf z)=q at *;cases p
 cases q
 congr 1
 exact Array.toList_inj.1 h
abbrev ujz(w:World)(b n:Nat)(D:DataW Unit):Prop:=w.ownsMap Tryz.prog 9 (plainElem Tryz.prog 3) b n D
structure MapN(w:World)(b:Nat)(ks:List (List Int))(g:List Int→Nat):Prop where
 own:∃D,ujz w b ks.length D∧Maps.size D=ks.length∧(∀l,Maps.has D l=true↔∃z∈ks,l=xT z)∧∀z∈ks,D.atKey (xT z) (.lit (.int .i64 0))=.lit (.int .i64 (g z:Nat))
 byt:∀z∈ks,BytL z
 sml:∀z∈ks,z.length≤1000000
 len:ks.length≤1000000
 nd:ks.Nodup
theorem MapN.on{w w':World}{b:Nat}{ks:List (List Int)}{g:List Int→Nat}(h:MapN w b ks g)(e:w'.heap[b]? = w.heap[b]?):MapN w' b ks g:=by
 obtain⟨D,⟨es,cl,h1,h2⟩,h3⟩:=h.own;exact⟨⟨D,⟨es,cl,e.trans h1,h2⟩,h3⟩,h.byt,h.sml,h.len,h.nd⟩
theorem MapN.lt{w:World}{b:Nat}{ks:List (List Int)}{g:List Int→Nat}(h:MapN w b ks g):b<w.heap.size:=by
 obtain⟨D,h1,_⟩:=h.own;exact h1.lt
theorem MapN.alloc{w:World}{b:Nat}{ks:List (List Int)}{g:List Int→Nat}(h:MapN w b ks g)(o:Obj):MapN (w.alloc o) b ks g:=h.on (Below.heap_alloc _ _ _ h.lt)
theorem MapN.made(w:World)(g:List Int→Nat):MapN (w.alloc (.map #[] 0)) w.heap.size [] g :=
 ⟨⟨.map [],World.ownsMap_made _ _ _ _,rfl,fun l=>⟨(fun q=>by cases q),(fun q=>by obtain⟨z,hz,_⟩:=q;cases hz)⟩,(fun z hz=>by cases hz)⟩,(fun z hz=>by cases hz),(fun z hz=>by cases hz),Nat.zero_le _,List.nodup_nil⟩
theorem MapN.congr{w:World}{b:Nat}{ks:List (List Int)}{g g':List Int→Nat}(h:MapN w b ks g)(e:∀z∈ks,g z=g' z):MapN w b ks g':=by
 obtain⟨D,h1,h2,h3,h4⟩:=h.own;exact⟨⟨D,h1,h2,h3,fun z hz=>by rw[h4 z hz,e z hz]⟩,h.byt,h.sml,h.len,h.nd⟩
theorem MapN.perm{w:World}{b:Nat}{ks ks':List (List Int)}{g:List Int→Nat}(h:MapN w b ks g)(p:ks.Perm ks'):MapN w b ks' g:=by
 obtain⟨D,h1,h2,h3,h4⟩:=h.own;have e:=p.length_eq;exact⟨⟨D,by rw[←e];exact h1,by rw[h2,e],fun l=>(h3 l).trans ⟨fun q=>by obtain⟨z,a,c⟩:=q;exact⟨z,p.mem_iff.1 a,c⟩,fun q=>by obtain⟨z,a,c⟩:=q;exact⟨z,p.mem_iff.2 a,c⟩⟩,fun z hz=>h4 z (p.mem_iff.2 hz)⟩,fun z hz=>h.byt z (p.mem_iff.2 hz),fun z hz=>h.sml z (p.mem_iff.2 hz),by rw[←e];exact h.len,p.nodup_iff.1 h.nd⟩
theorem MapN.has{w:World}{b:Nat}{ks:List (List Int)}{g:List Int→Nat}(h:MapN w b ks g){D:DataW Unit}(h3:∀l,Maps.has D l=true↔∃z∈ks,l=xT z){z:List Int}(hz:BytL z):Maps.has D (xT z)=decide (z∈ks):=by
 by_cases q:z∈ks
 ·rw[decide_eq_true q]
  exact (h3 _).2 ⟨z,q,rfl⟩
 ·rw[decide_eq_false q]
  by_cases e:Maps.has D (xT z)=true
  ·obtain⟨y,hy,e⟩:=(h3 _).1 e
   exact absurd (by rw[udp hz (h.byt y hy) e];exact hy) q
  ·simpa using e
def udq(ks:List (List Int))(g:List Int→Nat)(z:List Int):Nat:=if z∈ks then g z else 0
theorem ujA{w:World}{b n:Nat}{D:DataW Unit}(h:ujz w b n D):ujz w b (Maps.size D) D:=by
 obtain⟨es,cl,h1,h2,h3,rfl⟩:=h;exact⟨es,cl,h1,h2,by simp[Maps.size,length_sorted],rfl⟩
theorem MapN.look{w:World}{b:Nat}{ks:List (List Int)}{g:List Int→Nat}(h:MapN w b ks g){z:List Int}(hz:BytL z)(hl:z.length≤1000000) :
  ∃D,ujz w b ks.length D∧D.atKey (xT z) (.lit (.int .i64 0))=.lit (.int .i64 (udq ks g z:Nat))∧Maps.has D (xT z)=decide (z∈ks):=by
 obtain⟨D,h1,h2,h3,h4⟩:=h.own;refine⟨D,h1,?_,h.has h3 hz⟩;unfold udq;by_cases q:z∈ks
 ·rw[if_pos q,h4 z q]
 ·rw[if_neg q]
  exact Maps.atKey_of_not_has (by rw[h.has h3 hz,decide_eq_false q]) _
def ub8(g:List Int→Nat)(z:List Int)(i:Nat):List Int→Nat:=fun y=>if y=z then i else g y
def kU(ks:List (List Int))(z:List Int):List (List Int):=if z∈ks then ks else ks++[z]
theorem mem_addN{ks:List (List Int)}{z y:List Int}:y∈kU ks z↔y∈ks∨y=z:=by
 unfold kU;split
 ·exact⟨fun q=>.inl q,fun q=>q.elim id (fun e=>by rw[e];assumption)⟩
 ·simp
theorem MapN.put{w w':World}{b:Nat}{ks:List (List Int)}{g:List Int→Nat}(h:MapN w b ks g){z:List Int}(hz:BytL z)(hl:z.length≤1000000)(i:Nat)(hk:ks.length+1≤1000000)
  {D:DataW Unit} {n:Nat} (h2:Maps.size D=ks.length) (h3:∀l,Maps.has D l=true↔∃z∈ks,l=xT z) (h4:∀z∈ks,D.atKey (xT z) (.lit (.int .i64 0))=.lit (.int .i64 (g z:Nat))) (ht:Maps.Tidy D) (ho:ujz w' b n (D.put (xT z) (.lit (.int .i64 (i:Nat))))) :
  MapN w' b (kU ks z) (ub8 g z i):=by
 have hs:Maps.size (D.put (xT z) (.lit (.int .i64 (i:Nat))))=(kU ks z).length:=by
  rw[Maps.size_put ht,h.has h3 hz,h2];unfold kU;by_cases q:z∈ks
  ·rw[if_pos (by simpa using q),if_pos q]
  ·rw[if_neg (by simpa using q),if_neg q,List.length_append];rfl
 refine⟨⟨_,by rw[←hs];exact ujA ho,hs,fun l=>?_,fun y hy=>?_⟩,fun y hy=>?_,fun y hy=>?_,?_,?_⟩
 ·by_cases e:l=xT z
  ·subst e
   rw[Maps.has_put_same ht.isMap (ugc z)];exact⟨fun _=>⟨z,mem_addN.2 (.inr rfl),rfl⟩,fun _=>rfl⟩
  ·rw[Maps.has_put_other e,h3]
   constructor
   ·rintro⟨y,hy,rfl⟩
    exact⟨y,mem_addN.2 (.inl hy),rfl⟩
   ·rintro⟨y,hy,rfl⟩
    rcases mem_addN.1 hy with q | q
    ·exact⟨y,q,rfl⟩
    ·rw[q]at e
     exact absurd rfl e
 ·unfold ub8
  by_cases e:y=z
  ·rw[if_pos e,e]
   exact Maps.atKey_put_same ht.isMap (ugc z) _ _
  ·rw[if_neg e]
   rcases mem_addN.1 hy with q | q
   ·rw[Maps.atKey_put_other (fun c=>e (udp (h.byt y q) hz c))]
    exact h4 y q
   ·exact absurd q e
 ·rcases mem_addN.1 hy with q | q
  ·exact h.byt y q
  ·rw[q];exact hz
 ·rcases mem_addN.1 hy with q | q
  ·exact h.sml y q
  ·rw[q];exact hl
 ·unfold kU
  split
  ·exact h.len
  ·rw[List.length_append];exact hk
 ·unfold kU
  split
  ·exact h.nd
  ·rename_i q
   refine List.nodup_append.2 ⟨h.nd,by simp,fun x hx y hy=>?_⟩
   rw[List.mem_singleton.1 hy];exact fun e=>q (by rw[←e];exact hx)
section
variable (w:World) {ops:Array Oper} {rest:List Oper} {o:Oper} {a:Act} {Q:Exit→Act→World→Prop}
theorem ueH(hg:o.guard=none)(m x:Operand)(hop:o.op=Op.lookup 57 m x true)(b:Nat)(ks:List (List Int))(g:List Int→Nat)(z:List Int)(hm:a.eval m=.map (some b))(h:MapN w b ks g)(hx:a.eval x=.string (str z.length (lf z)))(hz:BytL z)(hl:z.length≤1000000)(bv:Bool)(hbv:decide (z∈ks)=bv)
  (hK:wpList Tryz.prog ops Q rest (a.put o.dst (.tuple #[.int .i64 (udq ks g z:Nat),.bool bv])) w):wpList Tryz.prog ops Q (o::rest) a w:=by
 obtain⟨D,h1,h2,h3⟩:=h.look hz hl;refine wpList_lookup_own_ok_int w hg m x 57 hop 9 3 .i64 uhv Tryz.underlying57 Tryz.underlying3 (zero3 w) b _ D hm h1 _ _ hx (uhw z hl) (fun c hat hwc=>?_)
 rw[h2]at hat;injection hat with hat
 injection hat with _ hat
 rw[←hat,h3,hbv];exact hK
theorem ule(hg:o.guard=none)(m x:Operand)(hop:o.op=Op.lookup 57 m x false)(b:Nat)(ks:List (List Int))(g:List Int→Nat)(z:List Int)(hm:a.eval m=.map (some b))(h:MapN w b ks g)(hx:a.eval x=.string (str z.length (lf z)))(hz:BytL z)(hl:z.length≤1000000)
  (hK:wpList Tryz.prog ops Q rest (a.put o.dst (.int .i64 (udq ks g z:Nat))) w):wpList Tryz.prog ops Q (o::rest) a w:=by
 obtain⟨D,h1,h2,h3⟩:=h.look hz hl;refine wpList_lookup_own_int w hg m x 57 hop 9 3 .i64 uhv Tryz.underlying57 Tryz.underlying3 (zero3 w) b _ D hm h1 _ _ hx (uhw z hl) (fun c hat hwc=>?_)
 rw[h2]at hat;injection hat with hat
 injection hat with _ hat
 rw[←hat];exact hK
theorem ulf(hg:o.guard=none)(m:Operand)(hop:o.op=Op.call { callee:=Callee.builtin Builtin.len,args:=#[m],argTypes:=#[57] })(b:Nat)(ks:List (List Int))(g:List Int→Nat)(hm:a.eval m=.map (some b))(h:MapN w b ks g)
  (hK:wpList Tryz.prog ops Q rest (a.put o.dst (.int .i64 (ks.length:Nat))) w):wpList Tryz.prog ops Q (o::rest) a w:=by
 obtain⟨D,h1,h2,h3,h4⟩:=h.own;refine wpList_len_own w hg m 57 hop 9 3 Tryz.underlying57 _ b _ D hm h1 ?_;rw[h2];exact hK
theorem unf(hg:o.guard=none)(m x v:Operand)(hop:o.op=Op.mapUpdate 57 m x v)(b:Nat)(ks:List (List Int))(g:List Int→Nat)(z:List Int)(i:Nat)(hm:a.eval m=.map (some b))(h:MapN w b ks g)(hx:a.eval x=.string (str z.length (lf z)))(hv:a.eval v=.int .i64 (i:Nat))(hz:BytL z)(hl:z.length≤1000000)(hk:ks.length+1≤1000000)(hi:i≤1000000)
  (hK:∀w',MapN w' b (kU ks z) (ub8 g z i)→w.grownBy w' (some b)→wpList Tryz.prog ops Q rest (a.put o.dst undef) w'):wpList Tryz.prog ops Q (o::rest) a w:=by
 obtain⟨D,h1,h2,h3,h4⟩:=h.own;exact wpList_mapUpdate_own w hg m x v 57 hop 9 3 uhv Tryz.underlying57 _ b _ D hm h1 (by unfold maxLen;omega) _ _ (xT z) hx hv (uhw z hl) _ [] (plainElem_int Tryz.underlying3 (WalkArith.wf_i64 (by omega))) (fun w' ho hgr=>hK w' (h.put hz hl i hk h2 h3 h4 (h1.tidy uhv) ho) hgr)
end
end
section
open Go.Shelf
def Tryz.lays92_ren : Go.Shelf.Ren := ⟨fun | 137 => 102 | 217 => 110 | 266 => 123 | n => n, fun | 9 => 9 | 5 => 5 | 3 => 3 | n => n, fun | n => n⟩
theorem Tryz.lays92 : Go.Proofs.Lays.n137 Tryz.prog Tryz.lays92_ren := {
  mixed := by kernel_rfl
  f137 := Tryz.func102.trans (congrArg some (by kernel_rfl))
  f217 := Tryz.func110.trans (congrArg some (by kernel_rfl))
  f266 := Tryz.func123.trans (congrArg some (by kernel_rfl))
  t3 := Tryz.underlying3
  a3 := Tryz.isAgg3
  z3 := Tryz.sizeOf3
  v3 := Tryz.zeroValue3
  t5 := Tryz.underlying5
  a5 := Tryz.isAgg5
  z5 := Tryz.sizeOf5
  v5 := Tryz.zeroValue5
  t9 := Tryz.underlying9
  a9 := Tryz.isAgg9
  z9 := Tryz.sizeOf9
  v9 := Tryz.zeroValue9 }
def Tryz.clone67_ren : Go.Shelf.Ren := ⟨fun | 5 => 73 | 7 => 92 | n => n, fun | 23 => 57 | 25 => 9 | 3 => 3 | 4 => 4 | 20 => 20 | n => n, fun | n => n⟩
theorem Tryz.clone67 : Go.Proofs.SlLaysW.n5 Tryz.prog Tryz.clone67_ren := {
  mixed := by kernel_rfl
  f5 := ⟨Tryz.f73.name, by decide, Tryz.func73.trans (congrArg some (by kernel_rfl))⟩
  f7 := Tryz.func92.trans (congrArg some (by kernel_rfl))
  t4 := Tryz.underlying4
  a4 := Tryz.isAgg4
  z4 := Tryz.sizeOf4
  v4 := Tryz.zeroValue4
  t20 := Tryz.underlying20
  a20 := Tryz.isAgg20
  z20 := Tryz.sizeOf20
  v20 := Tryz.zeroValue20
  t23 := Tryz.underlying57
  a23 := Tryz.isAgg57
  z23 := Tryz.sizeOf57
  v23 := Tryz.zeroValue57 }
def Tryz.keys69_ren : Go.Shelf.Ren := ⟨fun | 7 => 75 | 10 => 95 | n => n, fun | 23 => 57 | 26 => 9 | 3 => 3 | 28 => 128 | 0 => 0 | 27 => 127 | 33 => 142 | 4 => 4 | n => n, fun | n => n⟩
theorem Tryz.keys69 : Go.Proofs.SlLaysZ.n7 Tryz.prog Tryz.keys69_ren := {
  mixed := by kernel_rfl
  f7 := ⟨Tryz.f75.name, by decide, Tryz.func75.trans (congrArg some (by kernel_rfl))⟩
  f10 := ⟨Tryz.f95.name, by decide, Tryz.func95.trans (congrArg some (by kernel_rfl))⟩
  t0 := Tryz.underlying0
  a0 := Tryz.isAgg0
  z0 := Tryz.sizeOf0
  v0 := Tryz.zeroValue0
  t4 := Tryz.underlying4
  a4 := Tryz.isAgg4
  z4 := Tryz.sizeOf4
  v4 := Tryz.zeroValue4
  t23 := Tryz.underlying57
  a23 := Tryz.isAgg57
  z23 := Tryz.sizeOf57
  v23 := Tryz.zeroValue57
  t26 := Tryz.underlying9
  a26 := Tryz.isAgg9
  z26 := Tryz.sizeOf9
  v26 := Tryz.zeroValue9
  t27 := Tryz.underlying127
  a27 := Tryz.isAgg127
  z27 := Tryz.sizeOf127
  v27 := Tryz.zeroValue127
  t28 := Tryz.underlying128
  a28 := Tryz.isAgg128
  z28 := Tryz.sizeOf128
  v28 := Tryz.zeroValue128
  t33 := Tryz.underlying142
  a33 := Tryz.isAgg142
  z33 := Tryz.sizeOf142
  v33 := Tryz.zeroValue142 }
def Tryz.sorted68_ren : Go.Shelf.Ren := ⟨fun | 6 => 74 | 8 => 93 | 9 => 94 | 11 => 105 | 13 => 107 | 12 => 106 | 23 => 121 | 24 => 122 | 14 => 112 | 15 => 113 | 16 => 114 | 17 => 115 | 18 => 116 | 19 => 117 | 20 => 118 | 21 => 119 | 22 => 120 | 25 => 125 | 26 => 126 | 27 => 127 | 28 => 128 | 29 => 129 | 30 => 130 | 31 => 132 | n => n, fun | 26 => 9 | 28 => 128 | 24 => 105 | 0 => 0 | 3 => 3 | 37 => 150 | 48 => 160 | 50 => 162 | 4 => 4 | 40 => 153 | 39 => 152 | 45 => 85 | 5 => 5 | 9 => 9 | 51 => 163 | 55 => 167 | 57 => 170 | 58 => 171 | 33 => 142 | n => n, fun | n => n⟩
theorem Tryz.sorted68 : Go.Proofs.SlLaysZ.n6 Tryz.prog Tryz.sorted68_ren := {
  mixed := by kernel_rfl
  f6 := ⟨Tryz.f74.name, by decide, Tryz.func74.trans (congrArg some (by kernel_rfl))⟩
  f8 := ⟨Tryz.f93.name, by decide, Tryz.func93.trans (congrArg some (by kernel_rfl))⟩
  f11 := ⟨Tryz.f105.name, by decide, Tryz.func105.trans (congrArg some (by kernel_rfl))⟩
  t0 := Tryz.underlying0
  a0 := Tryz.isAgg0
  z0 := Tryz.sizeOf0
  v0 := Tryz.zeroValue0
  t24 := Tryz.underlying105
  a24 := Tryz.isAgg105
  z24 := Tryz.sizeOf105
  v24 := Tryz.zeroValue105
  t26 := Tryz.underlying9
  a26 := Tryz.isAgg9
  z26 := Tryz.sizeOf9
  v26 := Tryz.zeroValue9
  t28 := Tryz.underlying128
  a28 := Tryz.isAgg128
  z28 := Tryz.sizeOf128
  v28 := Tryz.zeroValue128
  i26 := by kernel_rfl }
def Tryz.sort86_ren : Go.Shelf.Ren := ⟨fun | 6 => 94 | 8 => 107 | 9 => 106 | 19 => 121 | 20 => 122 | 21 => 112 | 22 => 113 | 23 => 114 | 24 => 115 | 25 => 116 | 26 => 117 | 27 => 118 | 28 => 119 | 29 => 120 | 36 => 125 | 31 => 126 | 32 => 127 | 37 => 128 | 38 => 129 | 39 => 130 | 41 => 132 | n => n, fun | 27 => 105 | 29 => 9 | 3 => 3 | 32 => 150 | 26 => 105 | 0 => 0 | 44 => 160 | 46 => 162 | 4 => 4 | 36 => 153 | 35 => 152 | 41 => 85 | 5 => 5 | 9 => 9 | 53 => 163 | 57 => 167 | 63 => 170 | 64 => 171 | n => n, fun | n => n⟩
theorem Tryz.sort86 : Go.Proofs.SlLaysM.n6 Tryz.prog Tryz.sort86_ren := {
  mixed := by kernel_rfl
  f6 := ⟨Tryz.f94.name, by decide, Tryz.func94.trans (congrArg some (by kernel_rfl))⟩
  f8 := Tryz.func107.trans (congrArg some (by kernel_rfl))
  f9 := ⟨Tryz.f106.name, by decide, Tryz.func106.trans (congrArg some (by kernel_rfl))⟩
  f19 := Tryz.func121.trans (congrArg some (by kernel_rfl))
  f20 := Tryz.func122.trans (congrArg some (by kernel_rfl))
  f21 := ⟨Tryz.f112.name, by decide, Tryz.func112.trans (congrArg some (by kernel_rfl))⟩
  f22 := ⟨Tryz.f113.name, by decide, Tryz.func113.trans (congrArg some (by kernel_rfl))⟩
  f23 := ⟨Tryz.f114.name, by decide, Tryz.func114.trans (congrArg some (by kernel_rfl))⟩
  f24 := ⟨Tryz.f115.name, by decide, Tryz.func115.trans (congrArg some (by kernel_rfl))⟩
  f25 := ⟨Tryz.f116.name, by decide, Tryz.func116.trans (congrArg some (by kernel_rfl))⟩
  f26 := ⟨Tryz.f117.name, by decide, Tryz.func117.trans (congrArg some (by kernel_rfl))⟩
  f27 := ⟨Tryz.f118.name, by decide, Tryz.func118.trans (congrArg some (by kernel_rfl))⟩
  f28 := ⟨Tryz.f119.name, by decide, Tryz.func119.trans (congrArg some (by kernel_rfl))⟩
  f29 := ⟨Tryz.f120.name, by decide, Tryz.func120.trans (congrArg some (by kernel_rfl))⟩
  f31 := Tryz.func126.trans (congrArg some (by kernel_rfl))
  f32 := Tryz.func127.trans (congrArg some (by kernel_rfl))
  f36 := ⟨Tryz.f125.name, by decide, Tryz.func125.trans (congrArg some (by kernel_rfl))⟩
  f37 := ⟨Tryz.f128.name, by decide, Tryz.func128.trans (congrArg some (by kernel_rfl))⟩
  f38 := ⟨Tryz.f129.name, by decide, Tryz.func129.trans (congrArg some (by kernel_rfl))⟩
  f39 := ⟨Tryz.f130.name, by decide, Tryz.func130.trans (congrArg some (by kernel_rfl))⟩
  f41 := ⟨Tryz.f132.name, by decide, Tryz.func132.trans (congrArg some (by kernel_rfl))⟩
  t0 := Tryz.underlying0
  a0 := Tryz.isAgg0
  z0 := Tryz.sizeOf0
  v0 := Tryz.zeroValue0
  t3 := Tryz.underlying3
  a3 := Tryz.isAgg3
  z3 := Tryz.sizeOf3
  v3 := Tryz.zeroValue3
  t4 := Tryz.underlying4
  a4 := Tryz.isAgg4
  z4 := Tryz.sizeOf4
  v4 := Tryz.zeroValue4
  t5 := Tryz.underlying5
  a5 := Tryz.isAgg5
  z5 := Tryz.sizeOf5
  v5 := Tryz.zeroValue5
  t9 := Tryz.underlying9
  a9 := Tryz.isAgg9
  z9 := Tryz.sizeOf9
  v9 := Tryz.zeroValue9
  t26 := Tryz.underlying105
  a26 := Tryz.isAgg105
  z26 := Tryz.sizeOf105
  v26 := Tryz.zeroValue105
  t27 := Tryz.underlying105
  a27 := Tryz.isAgg105
  z27 := Tryz.sizeOf105
  v27 := Tryz.zeroValue105
  t29 := Tryz.underlying9
  a29 := Tryz.isAgg9
  z29 := Tryz.sizeOf9
  v29 := Tryz.zeroValue9
  t32 := Tryz.underlying150
  a32 := Tryz.isAgg150
  z32 := Tryz.sizeOf150
  v32 := Tryz.zeroValue150
  t35 := Tryz.underlying152
  a35 := Tryz.isAgg152
  z35 := Tryz.sizeOf152
  v35 := Tryz.zeroValue152
  t36 := Tryz.underlying153
  a36 := Tryz.isAgg153
  z36 := Tryz.sizeOf153
  v36 := Tryz.zeroValue153
  t41 := Tryz.underlying85
  a41 := Tryz.isAgg85
  z41 := Tryz.sizeOf85
  v41 := Tryz.zeroValue85
  t44 := Tryz.underlying160
  a44 := Tryz.isAgg160
  z44 := Tryz.sizeOf160
  v44 := Tryz.zeroValue160
  t46 := Tryz.underlying162
  a46 := Tryz.isAgg162
  z46 := Tryz.sizeOf162
  v46 := Tryz.zeroValue162
  t53 := Tryz.underlying163
  a53 := Tryz.isAgg163
  z53 := Tryz.sizeOf163
  v53 := Tryz.zeroValue163
  t57 := Tryz.underlying167
  a57 := Tryz.isAgg167
  z57 := Tryz.sizeOf167
  v57 := Tryz.zeroValue167
  t63 := Tryz.underlying170
  a63 := Tryz.isAgg170
  z63 := Tryz.sizeOf170
  v63 := Tryz.zeroValue170
  t64 := Tryz.underlying171
  a64 := Tryz.isAgg171
  z64 := Tryz.sizeOf171
  v64 := Tryz.zeroValue171 }
end
end Go.Proofs.YthicmmhmmfhncaaGreat
