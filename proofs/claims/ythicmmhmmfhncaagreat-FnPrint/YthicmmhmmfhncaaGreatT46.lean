import Derived.Test.YthicmmhmmfhncaaGreatT45
set_option linter.unusedVariables false
set_option linter.unusedSimpArgs false
namespace Go.Proofs.YthicmmhmmfhncaaGreat
section
open Go.RowKit
open M (OpD uj Gr TX uq yV b1 grp)
def IsV(Qs:Nat→Prop)(w:World):TX→Value→Prop
 | .empty,v=>v=.iface 135 (.agg #[])
 | .set n S,v=>∃a c,v=.iface 115 (.agg #[.slice a n c])∧Ints Qs .i64 w a n S
 | .ref s,v=>v=.iface 117 (.agg #[.string s])
 | .thr s,v=>v=.iface 119 (.agg #[.string s])
 | .seq x y,v=>∃vx vy,v=.iface 121 (.agg #[vx,vy])∧IsV Qs w x vx∧IsV Qs w y vy
 | .alt x y,v=>∃vx vy,v=.iface 122 (.agg #[vx,vy])∧IsV Qs w x vx∧IsV Qs w y vy
 | .star x,v=>∃vx,v=.iface 124 (.agg #[vx])∧IsV Qs w x vx
 | .not x,v=>∃vx,v=.iface 125 (.agg #[vx])∧IsV Qs w x vx
theorem IsV.on{Qs:Nat→Prop}{w w':World}(k:Stay Qs w w')(t:TX):∀v,IsV Qs w t v→IsV Qs w' t v:=by
 induction t with
 |empty=>exact fun v h=>h
 |set n S=>rintro v ⟨a,c,h1,h2⟩;exact⟨a,c,h1,h2.on k⟩
 |ref s=>exact fun v h=>h
 |thr s=>exact fun v h=>h
 |seq x y ihx ihy=>rintro v ⟨vx,vy,h1,h2,h3⟩;exact⟨vx,vy,h1,ihx _ h2,ihy _ h3⟩
 |alt x y ihx ihy=>rintro v ⟨vx,vy,h1,h2,h3⟩;exact⟨vx,vy,h1,ihx _ h2,ihy _ h3⟩
 |star x ih=>rintro v ⟨vx,h1,h2⟩;exact⟨vx,h1,ih _ h2⟩
 |not x ih=>rintro v ⟨vx,h1,h2⟩;exact⟨vx,h1,ih _ h2⟩
theorem IsV.later{Qs:Nat→Prop}{w w':World}(k:Below w.heap.size w w')(t:TX):∀v,IsV Qs w t v→IsV Qs w' t v:=by
 induction t with
 |empty=>exact fun v h=>h
 |set n S=>rintro v ⟨a,c,h1,h2⟩;exact⟨a,c,h1,h2.later k⟩
 |ref s=>exact fun v h=>h
 |thr s=>exact fun v h=>h
 |seq x y ihx ihy=>rintro v ⟨vx,vy,h1,h2,h3⟩;exact⟨vx,vy,h1,ihx _ h2,ihy _ h3⟩
 |alt x y ihx ihy=>rintro v ⟨vx,vy,h1,h2,h3⟩;exact⟨vx,vy,h1,ihx _ h2,ihy _ h3⟩
 |star x ih=>rintro v ⟨vx,h1,h2⟩;exact⟨vx,h1,ih _ h2⟩
 |not x ih=>rintro v ⟨vx,h1,h2⟩;exact⟨vx,h1,ih _ h2⟩
theorem IsV.iface{Qs:Nat→Prop}{w:World}{t:TX}{v:Value}(h:IsV Qs w t v):∃u p,v=.iface u p:=by
 cases t with
 |empty=>exact⟨_,_,h⟩
 |set n S=>obtain⟨a,c,h1,_⟩:=h;exact⟨_,_,h1⟩
 |ref s=>exact⟨_,_,h⟩
 |thr s=>exact⟨_,_,h⟩
 |seq x y=>obtain⟨_,_,h1,_⟩:=h;exact⟨_,_,h1⟩
 |alt x y=>obtain⟨_,_,h1,_⟩:=h;exact⟨_,_,h1⟩
 |star x=>obtain⟨_,h1,_⟩:=h;exact⟨_,_,h1⟩
 |not x=>obtain⟨_,h1,_⟩:=h;exact⟨_,_,h1⟩
theorem Gone.rebase{Q:Nat→Prop}{w w1 w':World}{v:Value}{s:ByteArray}(h:Gone Q w1 w' v s)(k:Below w.heap.size w w1):Gone Q w w' v s:=by
 obtain⟨Q',h1,h2,h3⟩:=h;exact⟨Q',h1,fun b hb=>(h2 b hb).imp id (fun q=>Nat.le_trans k.size q),(uci k).trans h3⟩
theorem ui9 (xs : Array Value) (w : World) : (method 289 115 (.agg xs) "loop.example/s0055/impl.binding").run Tryz.prog w = .ok (150, .agg xs) w := by kernel_rfl
theorem uja (xs : Array Value) (w : World) : (method 289 117 (.agg xs) "loop.example/s0055/impl.binding").run Tryz.prog w = .ok (151, .agg xs) w := by kernel_rfl
theorem ujb (xs : Array Value) (w : World) : (method 289 119 (.agg xs) "loop.example/s0055/impl.binding").run Tryz.prog w = .ok (152, .agg xs) w := by kernel_rfl
theorem ujc (xs : Array Value) (w : World) : (method 289 121 (.agg xs) "loop.example/s0055/impl.binding").run Tryz.prog w = .ok (153, .agg xs) w := by kernel_rfl
theorem ujd (xs : Array Value) (w : World) : (method 289 122 (.agg xs) "loop.example/s0055/impl.binding").run Tryz.prog w = .ok (154, .agg xs) w := by kernel_rfl
theorem uje (xs : Array Value) (w : World) : (method 289 124 (.agg xs) "loop.example/s0055/impl.binding").run Tryz.prog w = .ok (155, .agg xs) w := by kernel_rfl
theorem ujf (xs : Array Value) (w : World) : (method 289 125 (.agg xs) "loop.example/s0055/impl.binding").run Tryz.prog w = .ok (156, .agg xs) w := by kernel_rfl
theorem ujg (xs : Array Value) (w : World) : (method 289 135 (.agg xs) "loop.example/s0055/impl.binding").run Tryz.prog w = .ok (157, .agg xs) w := by kernel_rfl
theorem ujh(x:Value)(w:World):Calls Tryz.prog 150 #[.agg #[x]] w fun e w'=>e=.returned (.int .i64 4)∧Below w.heap.size w w':=by
 go_enter Tryz.func150,Tryz.ntmps150;go_wp2;go_ret;exact⟨rfl,up w _⟩
theorem uji(x:Value)(w:World):Calls Tryz.prog 151 #[.agg #[x]] w fun e w'=>e=.returned (.int .i64 4)∧Below w.heap.size w w':=by
 go_enter Tryz.func151,Tryz.ntmps151;go_wp2;go_ret;exact⟨rfl,up w _⟩
theorem ujj(x:Value)(w:World):Calls Tryz.prog 152 #[.agg #[x]] w fun e w'=>e=.returned (.int .i64 4)∧Below w.heap.size w w':=by
 go_enter Tryz.func152,Tryz.ntmps152;go_wp2;go_ret;exact⟨rfl,up w _⟩
theorem ujk(x y:Value)(w:World):Calls Tryz.prog 153 #[.agg #[x,y]] w fun e w'=>e=.returned (.int .i64 1)∧Below w.heap.size w w':=by
 go_enter Tryz.func153,Tryz.ntmps153;go_wp2;go_ret;exact⟨rfl,up w _⟩
theorem ujl(x y:Value)(w:World):Calls Tryz.prog 154 #[.agg #[x,y]] w fun e w'=>e=.returned (.int .i64 0)∧Below w.heap.size w w':=by
 go_enter Tryz.func154,Tryz.ntmps154;go_wp2;go_ret;exact⟨rfl,up w _⟩
theorem ujm(x:Value)(w:World):Calls Tryz.prog 155 #[.agg #[x]] w fun e w'=>e=.returned (.int .i64 3)∧Below w.heap.size w w':=by
 go_enter Tryz.func155,Tryz.ntmps155;go_wp2;go_ret;exact⟨rfl,up w _⟩
theorem ujn(x:Value)(w:World):Calls Tryz.prog 156 #[.agg #[x]] w fun e w'=>e=.returned (.int .i64 2)∧Below w.heap.size w w':=by
 go_enter Tryz.func156,Tryz.ntmps156;go_wp2;go_ret;exact⟨rfl,up w _⟩
theorem ujo (w:World):Calls Tryz.prog 157 #[.agg #[]] w fun e w'=>e=.returned (.int .i64 4)∧Below w.heap.size w w':=by
 go_enter Tryz.func157,Tryz.ntmps157;go_wp2;go_ret;exact⟨rfl,up w _⟩
theorem uj8(xs:Array Value)(w:World):(Instr.typeAssert (.iface 115 (.agg xs)) 63 115 true).run Tryz.prog w=.ok (.tuple #[.agg xs,.bool true]) w:=by kernel_rfl
theorem uj9(xs:Array Value)(w:World):(Instr.typeAssert (.iface 117 (.agg xs)) 63 115 true).run Tryz.prog w=.ok (.tuple #[.agg #[.slice none 0 0],.bool false]) w:=by kernel_rfl
theorem uka(xs:Array Value)(w:World):(Instr.typeAssert (.iface 117 (.agg xs)) 63 117 true).run Tryz.prog w=.ok (.tuple #[.agg xs,.bool true]) w:=by kernel_rfl
theorem ukb(xs:Array Value)(w:World):(Instr.typeAssert (.iface 119 (.agg xs)) 63 115 true).run Tryz.prog w=.ok (.tuple #[.agg #[.slice none 0 0],.bool false]) w:=by kernel_rfl
theorem ukc(xs:Array Value)(w:World):(Instr.typeAssert (.iface 119 (.agg xs)) 63 117 true).run Tryz.prog w=.ok (.tuple #[.agg #[.string ⟨#[]⟩],.bool false]) w:=by kernel_rfl
theorem ukd(xs:Array Value)(w:World):(Instr.typeAssert (.iface 119 (.agg xs)) 63 119 true).run Tryz.prog w=.ok (.tuple #[.agg xs,.bool true]) w:=by kernel_rfl
theorem uke(xs:Array Value)(w:World):(Instr.typeAssert (.iface 121 (.agg xs)) 63 115 true).run Tryz.prog w=.ok (.tuple #[.agg #[.slice none 0 0],.bool false]) w:=by kernel_rfl
theorem ukf(xs:Array Value)(w:World):(Instr.typeAssert (.iface 121 (.agg xs)) 63 117 true).run Tryz.prog w=.ok (.tuple #[.agg #[.string ⟨#[]⟩],.bool false]) w:=by kernel_rfl
theorem ukg(xs:Array Value)(w:World):(Instr.typeAssert (.iface 121 (.agg xs)) 63 119 true).run Tryz.prog w=.ok (.tuple #[.agg #[.string ⟨#[]⟩],.bool false]) w:=by kernel_rfl
theorem ukh(xs:Array Value)(w:World):(Instr.typeAssert (.iface 121 (.agg xs)) 63 121 true).run Tryz.prog w=.ok (.tuple #[.agg xs,.bool true]) w:=by kernel_rfl
theorem uki(xs:Array Value)(w:World):(Instr.typeAssert (.iface 122 (.agg xs)) 63 115 true).run Tryz.prog w=.ok (.tuple #[.agg #[.slice none 0 0],.bool false]) w:=by kernel_rfl
theorem ukj(xs:Array Value)(w:World):(Instr.typeAssert (.iface 122 (.agg xs)) 63 117 true).run Tryz.prog w=.ok (.tuple #[.agg #[.string ⟨#[]⟩],.bool false]) w:=by kernel_rfl
theorem ukk(xs:Array Value)(w:World):(Instr.typeAssert (.iface 122 (.agg xs)) 63 119 true).run Tryz.prog w=.ok (.tuple #[.agg #[.string ⟨#[]⟩],.bool false]) w:=by kernel_rfl
theorem ukl(xs:Array Value)(w:World):(Instr.typeAssert (.iface 122 (.agg xs)) 63 121 true).run Tryz.prog w=.ok (.tuple #[.agg #[.nilIface,.nilIface],.bool false]) w:=by kernel_rfl
theorem ukm(xs:Array Value)(w:World):(Instr.typeAssert (.iface 122 (.agg xs)) 63 122 true).run Tryz.prog w=.ok (.tuple #[.agg xs,.bool true]) w:=by kernel_rfl
theorem ukn(xs:Array Value)(w:World):(Instr.typeAssert (.iface 124 (.agg xs)) 63 115 true).run Tryz.prog w=.ok (.tuple #[.agg #[.slice none 0 0],.bool false]) w:=by kernel_rfl
theorem uko(xs:Array Value)(w:World):(Instr.typeAssert (.iface 124 (.agg xs)) 63 117 true).run Tryz.prog w=.ok (.tuple #[.agg #[.string ⟨#[]⟩],.bool false]) w:=by kernel_rfl
theorem ukp(xs:Array Value)(w:World):(Instr.typeAssert (.iface 124 (.agg xs)) 63 119 true).run Tryz.prog w=.ok (.tuple #[.agg #[.string ⟨#[]⟩],.bool false]) w:=by kernel_rfl
theorem ukq(xs:Array Value)(w:World):(Instr.typeAssert (.iface 124 (.agg xs)) 63 121 true).run Tryz.prog w=.ok (.tuple #[.agg #[.nilIface,.nilIface],.bool false]) w:=by kernel_rfl
theorem ukr(xs:Array Value)(w:World):(Instr.typeAssert (.iface 124 (.agg xs)) 63 122 true).run Tryz.prog w=.ok (.tuple #[.agg #[.nilIface,.nilIface],.bool false]) w:=by kernel_rfl
theorem uks(xs:Array Value)(w:World):(Instr.typeAssert (.iface 124 (.agg xs)) 63 124 true).run Tryz.prog w=.ok (.tuple #[.agg xs,.bool true]) w:=by kernel_rfl
theorem ukt(xs:Array Value)(w:World):(Instr.typeAssert (.iface 125 (.agg xs)) 63 115 true).run Tryz.prog w=.ok (.tuple #[.agg #[.slice none 0 0],.bool false]) w:=by kernel_rfl
theorem uku(xs:Array Value)(w:World):(Instr.typeAssert (.iface 125 (.agg xs)) 63 117 true).run Tryz.prog w=.ok (.tuple #[.agg #[.string ⟨#[]⟩],.bool false]) w:=by kernel_rfl
theorem ukv(xs:Array Value)(w:World):(Instr.typeAssert (.iface 125 (.agg xs)) 63 119 true).run Tryz.prog w=.ok (.tuple #[.agg #[.string ⟨#[]⟩],.bool false]) w:=by kernel_rfl
theorem ukw(xs:Array Value)(w:World):(Instr.typeAssert (.iface 125 (.agg xs)) 63 121 true).run Tryz.prog w=.ok (.tuple #[.agg #[.nilIface,.nilIface],.bool false]) w:=by kernel_rfl
theorem ukx(xs:Array Value)(w:World):(Instr.typeAssert (.iface 125 (.agg xs)) 63 122 true).run Tryz.prog w=.ok (.tuple #[.agg #[.nilIface,.nilIface],.bool false]) w:=by kernel_rfl
theorem uky(xs:Array Value)(w:World):(Instr.typeAssert (.iface 125 (.agg xs)) 63 124 true).run Tryz.prog w=.ok (.tuple #[.agg #[.nilIface],.bool false]) w:=by kernel_rfl
theorem ukz(xs:Array Value)(w:World):(Instr.typeAssert (.iface 125 (.agg xs)) 63 125 true).run Tryz.prog w=.ok (.tuple #[.agg xs,.bool true]) w:=by kernel_rfl
theorem ukA(xs:Array Value)(w:World):(Instr.typeAssert (.iface 135 (.agg xs)) 63 115 true).run Tryz.prog w=.ok (.tuple #[.agg #[.slice none 0 0],.bool false]) w:=by kernel_rfl
theorem ukB(xs:Array Value)(w:World):(Instr.typeAssert (.iface 135 (.agg xs)) 63 117 true).run Tryz.prog w=.ok (.tuple #[.agg #[.string ⟨#[]⟩],.bool false]) w:=by kernel_rfl
theorem ukC(xs:Array Value)(w:World):(Instr.typeAssert (.iface 135 (.agg xs)) 63 119 true).run Tryz.prog w=.ok (.tuple #[.agg #[.string ⟨#[]⟩],.bool false]) w:=by kernel_rfl
theorem ukD(xs:Array Value)(w:World):(Instr.typeAssert (.iface 135 (.agg xs)) 63 121 true).run Tryz.prog w=.ok (.tuple #[.agg #[.nilIface,.nilIface],.bool false]) w:=by kernel_rfl
theorem ukE(xs:Array Value)(w:World):(Instr.typeAssert (.iface 135 (.agg xs)) 63 122 true).run Tryz.prog w=.ok (.tuple #[.agg #[.nilIface,.nilIface],.bool false]) w:=by kernel_rfl
theorem ukF(xs:Array Value)(w:World):(Instr.typeAssert (.iface 135 (.agg xs)) 63 124 true).run Tryz.prog w=.ok (.tuple #[.agg #[.nilIface],.bool false]) w:=by kernel_rfl
theorem ukG(xs:Array Value)(w:World):(Instr.typeAssert (.iface 135 (.agg xs)) 63 125 true).run Tryz.prog w=.ok (.tuple #[.agg #[.nilIface],.bool false]) w:=by kernel_rfl
def uez(t:TX):Prop:=∀(Q Qs:Nat→Prop) (v ve:Value) (r:ByteArray) (w:World) (least:Int),least≤t.bind→0≤least→OutQ Q w v r→IsV Qs w t ve→Apart Qs Q w→t.Fine→r.size+t.text.size≤12000000 →
 Calls Tryz.prog 48 #[v,ve,.int .i64 least] w (uh7 Q r t.text w)
def ua0(t:TX):Prop:=∀(Q Qs:Nat→Prop) (v ve:Value) (r:ByteArray) (w:World) (least:Int),0≤least→least≤4→OutQ Q w v r→IsV Qs w t ve→Apart Qs Q w→t.Fine→r.size+(grp (t.bind<least) t.text).size≤12000000 →
 Calls Tryz.prog 48 #[v,ve,.int .i64 least] w (uh7 Q r (grp (t.bind<least) t.text) w)
end
section
open Go.RowKit
open M (OpD uj Gr TX uq yV b1 grp)
set_option maxRecDepth 100000 in
set_option maxHeartbeats 8000000 in
theorem umr(s:ByteArray):uez (.ref s):=by
  intro Q Qs v ve r w least hl h0 hO hv hq hF hL;have H:Hid (Gone Q w w v r):=Gone.start hO;obtain⟨va,vc,rfl⟩:=hO.shape;obtain rfl:ve=.iface 117 (.agg #[.string s]):=hv;have hs:=hF.1;have hs2:=hF.2;have hl':least≤4:=hl;have hr:r.size≤12000000:=by omega
  clear hO hq hF hL hl;have hm:=uja #[.string s];have a1:=uj9 #[.string s];have a2:=uka #[.string s];go_enter Tryz.func48,Tryz.ntmps48;go_wp2_with (first|(go_at_call 151;refine (uji _ _).mono ?_;rintro e W1 ⟨rfl,hb1⟩;have B1:Hid (Below w.heap.size w W1):=hb1;clear hb1)|(at_builtin;refine xw (t:=s) rfl _ _ 9 rfl rfl rfl (H.out.later (uh B1.out (up W1 _))) (xW _ s) 12000000 32 hr hs2 (by omega) hs ?_;intro W r' a' c' E1 E2 E3))
  go_ret;exact⟨_,rfl,E1.out▸E3.out⟩
theorem xJ{a b c:ByteArray}(h:a=b++c):a.size=b.size+c.size:=by rw[h,ByteArray.size_append]
theorem ui6{Q:Nat→Prop}{w W:World}{v:Value}{r:ByteArray}(h:OutQ Q w v r)(k:w.heap.size≤W.heap.size):¬Q W.heap.size:=fun q=>by have:=h.lt _ q;omega
theorem Apart.below{Qs Q:Nat→Prop}{w w':World}(h:Apart Qs Q w)(k:w.heap.size≤w'.heap.size):Apart Qs Q w':=fun b hb=>⟨(h b hb).1,Nat.lt_of_lt_of_le (h b hb).2 k⟩
set_option maxRecDepth 100000 in
set_option maxHeartbeats 8000000 in
theorem uh8:uez .empty:=by
  intro Q Qs v ve r w least hl h0 hO hv hq hF hL;have H:Hid (Gone Q w w v r):=Gone.start hO;obtain⟨va,vc,rfl⟩:=hO.shape;obtain rfl:ve=.iface 135 (.agg #[]):=hv;have hl':least≤4:=hl;have hr:r.size≤12000000:=by omega
  clear hO hq hF hL hl;have hm:=ujg #[];have a1:=ukA #[];have a2:=ukB #[];have a3:=ukC #[];have a4:=ukD #[];have a5:=ukE #[];have a6:=ukF #[];have a7:=ukG #[];go_enter Tryz.func48,Tryz.ntmps48;go_wp2_with (first|(go_at_call 157;refine (ujo _).mono ?_;rintro e W1 ⟨rfl,hb1⟩;have B1:Hid (Below w.heap.size w W1):=hb1;clear hb1)|(at_builtin;refine xw (t:=⟨#[34,34]⟩) rfl _ _ 9 rfl rfl rfl (H.out.later B1.out) (xW _ ⟨#[34,34]⟩) 12000000 32 hr (by decide) (by omega) (by decide) ?_;intro W r' a' c' E1 E2 E3))
  go_ret;exact⟨_,rfl,E1.out▸E3.out⟩
set_option maxRecDepth 100000 in
set_option maxHeartbeats 8000000 in
theorem ums(n:Nat)(S:Nat→Int):uez (.set n S):=by
  intro Q Qs v ve r w least hl h0 hO hv hq hF hL;have H:Hid (Gone Q w w v r):=Gone.start hO;obtain⟨va,vc,rfl⟩:=hO.shape;obtain⟨sa,sc,rfl,hI⟩:=hv;have HI:Hid (Ints Qs .i64 w sa n S):=hI;have HQ:Hid (Apart Qs Q w):=hq;have HC:Hid (M.Canon n S):=hF;have hl':least≤4:=hl;have hr:r.size≤12000000:=by omega
  clear hO hq hF hL hl hI;have hm:=ui9 #[.slice sa n sc];have a1:=uj8 #[.slice sa n sc];go_enter Tryz.func48,Tryz.ntmps48;go_wp2_with (first|(go_at_call 150;refine (ujh _ _).mono ?_;rintro e W1 ⟨rfl,hb1⟩;have B1:Hid (Below w.heap.size w W1):=hb1;clear hb1)|(go_at_call 80;refine ((H.out.later (uh B1.out (up W1 _))).call (fun Q' ho hq'=>uey Q' Qs sa n sc S _ r _ ho (HI.out.later (uh B1.out (up W1 _))) (HQ.out.next (uh B1.out (up W1 _)).size hq') HC.out (by omega))).mono ?_;rintro e W2 ⟨a2,c2,r2,rfl,F1,F2,F3⟩))
  go_ret;exact⟨_,rfl,F1.out▸F3.out⟩
set_option maxRecDepth 100000 in
set_option maxHeartbeats 8000000 in
theorem umt(s:ByteArray):uez (.thr s):=by
  intro Q Qs v ve r w least hl h0 hO hv hq hF hL;have HO:Hid (OutQ Q w v r):=hO;obtain⟨va,vc,rfl⟩:=hO.shape;obtain rfl:ve=.iface 119 (.agg #[.string s]):=hv;have hs:=hF.1;have hs2:=hF.2;have hl':least≤4:=hl;have hr:r.size≤12000000:=by omega
  clear hO hq hF hL hl;have hm:=ujb #[.string s];have a1:=ukb #[.string s];have a2:=ukc #[.string s];have a3:=ukd #[.string s];go_enter Tryz.func48,Tryz.ntmps48;go_wp2_with fail;refine (ujj _ _).mono ?_;rintro e W1 ⟨rfl,hb1⟩;have B1:Hid (Below w.heap.size w (W1.alloc (.cells #[.string s] 119))):=uh hb1 (up W1 _);have x0:(W1.alloc (.cells #[.string s] 119)).cell? ⟨W1.heap.size,0,none⟩=some (.string s):=cN W1.heap.size rfl rfl;have HX:Hid (Gone Q (W1.alloc (.cells #[.string s] 119)) (W1.alloc (.cells #[.string s] 119)) (.slice va r.size vc) r):=Gone.start (HO.out.later B1.out);have HNQ:Hid (¬Q W1.heap.size):=ui6 HO.out hb1.size;have lb:W1.heap.size<(W1.alloc (.cells #[.string s] 119)).heap.size:=ub x0;clear hb1;go_wp2;generalize W1.alloc (.cells #[.string s] 119)=X at *;generalize W1.heap.size=bx at *;have y0:(X.alloc (.cells #[.int .u8 94] 5)).cell? ⟨bx,0,none⟩=some (.string s):=vp _ x0;go_region_law (first
    | (refine ufV (t:=b1 94) rfl (.tmp 44) (.tmp 45) 22 rfl (v:=.slice va r.size vc) (y:=.slice (some ⟨X.heap.size,0,none⟩) 1 1) (by simp[Act.eval,Act.put]) (by simp[Act.eval,Act.put]) (HX.out.later (up X _).drew) (vq X.drew (b1 94) 1 1 rfl _ rfl) 12000000 4 hr (by decide) (by omega) (by decide) ?_
       intro W r' a' c' E1 E2 E3;have z0:W.cell? ⟨bx,0,none⟩=some (.string s):=(E3.out.keep.cell (p:=⟨bx,0,none⟩) lb HNQ.out).trans x0)
    | (refine ufV (t:=s) rfl (.tmp 46) (.tmp 48) 9 rfl (v:=.slice a' r'.size c') (y:=.string s) (by simp[Act.eval,Act.put]) (by simp[Act.eval,Act.put]) E3.out (xW _ s) 12000004 32 (by have:=E2.out;omega) hs2 (by omega) hs ?_
       intro W3 r3 a3 c3 G1 G2 G3))
  all_goals go_goals
  all_goals go_wp2
  all_goals go_ret
  all_goals exact⟨_,rfl,by show Gone Q w _ _ (r++(b1 94++s));rw[←ByteArray.append_assoc,←E1.out,←G1.out];exact G3.out.rebase B1.out⟩
end
section
open Go.RowKit
open M (OpD uj Gr TX uq yV b1 grp)
set_option maxRecDepth 100000 in
set_option maxHeartbeats 8000000 in
theorem umC(x y:TX)(hx:ua0 x)(hy:ua0 y):uez (.seq x y):=by
 intro Q Qs v ve r w least hl h0 hO hv hq hF hL;have HO:Hid (OutQ Q w v r):=hO;have HFX:Hid (ua0 x):=hx;have HFY:Hid (ua0 y):=hy;obtain⟨va,vc,rfl⟩:=hO.shape;obtain⟨vx,vy,rfl,hvx,hvy⟩:=hv;obtain⟨ux,px,rfl⟩:=hvx.iface;obtain⟨uy,py,rfl⟩:=hvy.iface;have HVX:Hid (IsV Qs w x (.iface ux px)):=hvx;have HVY:Hid (IsV Qs w y (.iface uy py)):=hvy;have HQ:Hid (Apart Qs Q w):=hq;have HF:Hid (x.Fine∧y.Fine):=hF;have hl':least≤1:=hl;have HT:Hid ((TX.seq x y).text=grp (x.bind<1) x.text++b1 32++grp (y.bind<2) y.text):=by show _=_;rfl
 have HL:Hid (r.size+((grp (x.bind<1) x.text).size+1+(grp (y.bind<2) y.text).size)≤12000000):=by
  have e:(TX.seq x y).text.size=(grp (x.bind<1) x.text).size+1+(grp (y.bind<2) y.text).size:=by rw[HT.out,ByteArray.size_append,ByteArray.size_append];rfl
  show _≤_;rw[e]at hL;exact hL
 clear hO hq hF hL hl hvx hvy hx hy;have hm:=ujc #[(.iface ux px),(.iface uy py)];have a1:=uke #[(.iface ux px),(.iface uy py)];have a2:=ukf #[(.iface ux px),(.iface uy py)];have a3:=ukg #[(.iface ux px),(.iface uy py)];have a4:=ukh #[(.iface ux px),(.iface uy py)];go_enter Tryz.func48,Tryz.ntmps48;go_wp2_with fail;refine (ujk _ _ _).mono ?_;rintro e W1 ⟨rfl,hb1⟩;have B1:Hid (Below w.heap.size w (W1.alloc (.cells #[(.iface ux px),(.iface uy py)] 121))):=uh hb1 (up W1 _);have x0:(W1.alloc (.cells #[(.iface ux px),(.iface uy py)] 121)).cell? ⟨W1.heap.size,0,none⟩=some (.iface ux px):=cN W1.heap.size rfl rfl;have x1:(W1.alloc (.cells #[(.iface ux px),(.iface uy py)] 121)).cell? ⟨W1.heap.size,1,none⟩=some (.iface uy py):=cN W1.heap.size rfl rfl;have HX:Hid (Gone Q (W1.alloc (.cells #[(.iface ux px),(.iface uy py)] 121)) (W1.alloc (.cells #[(.iface ux px),(.iface uy py)] 121)) (.slice va r.size vc) r):=Gone.start (HO.out.later B1.out);have HNQ:Hid (¬Q W1.heap.size):=ui6 HO.out hb1.size;have lb:W1.heap.size<(W1.alloc (.cells #[(.iface ux px),(.iface uy py)] 121)).heap.size:=ub x0;have HQX:Hid (Apart Qs Q (W1.alloc (.cells #[(.iface ux px),(.iface uy py)] 121))):=HQ.out.below B1.out.size;have HVX1:Hid (IsV Qs (W1.alloc (.cells #[(.iface ux px),(.iface uy py)] 121)) x (.iface ux px)):=IsV.later B1.out x (.iface ux px) HVX.out;have HVY1:Hid (IsV Qs (W1.alloc (.cells #[(.iface ux px),(.iface uy py)] 121)) y (.iface uy py)):=IsV.later B1.out y (.iface uy py) HVY.out;have X0:Hid ((W1.alloc (.cells #[(.iface ux px),(.iface uy py)] 121)).cell? ⟨W1.heap.size,1,none⟩=some (.iface uy py)):=x1;clear hb1;go_wp2_with fail;refine (HX.out.call (fun Q' ho hq'=>HFX.out Q' Qs _ (.iface ux px) r _ 1 (by omega) (by omega) ho HVX1.out (HQX.out.next (Nat.le_refl _) hq') HF.out.1 (by have:=HL.out;omega))).mono ?_
 rintro e W2 ⟨a2,c2,r2,rfl,F1,F2,F3⟩;have z1:W2.cell? ⟨W1.heap.size,1,none⟩=some (.iface uy py):=(F3.out.keep.cell (p:=⟨W1.heap.size,1,none⟩) lb HNQ.out).trans X0.out;have l2:W1.heap.size<W2.heap.size:=ub z1;go_wp2_with (at_builtin;refine xw (t:=b1 32) rfl _ _ 22 rfl rfl rfl (F3.out.later (up W2 _)) (vq W2 (b1 32) 1 1 rfl _ rfl) 12000000 4 (by have:=F2.out;have:=HL.out;omega) (by decide) (by omega) (by decide) ?_;intro W3 r3 a3 c3 G1 G2 G3;have z3:W3.cell? ⟨W1.heap.size,1,none⟩=some (.iface uy py):=(G3.out.keep.cell (p:=⟨W1.heap.size,1,none⟩) lb HNQ.out).trans X0.out;have l3:W1.heap.size<W3.heap.size:=ub z3)
 refine (G3.out.call (fun Q' ho hq'=>HFY.out Q' Qs _ (.iface uy py) r3 _ 2 (by omega) (by omega) ho (IsV.on (HQX.out.gone G3.out) y (.iface uy py) HVY1.out) (HQX.out.next G3.out.size hq') HF.out.2 (by have h1:=F2.out;have h2:=HL.out;have h3:=xJ G1.out;have h4:(b1 32).size=1:=rfl;omega))).mono ?_
 rintro e W4 ⟨a4,c4,r4,rfl,J1,J2,J3⟩;go_wp2;go_ret;exact⟨_,rfl,by rw[HT.out,←ByteArray.append_assoc,←ByteArray.append_assoc,←F1.out,←G1.out,←J1.out];exact J3.out.rebase B1.out⟩
end
section
open Go.RowKit
open M (OpD uj Gr TX uq yV b1 grp)
set_option maxRecDepth 100000 in
set_option maxHeartbeats 8000000 in
theorem umo(x y:TX)(hx:ua0 x)(hy:ua0 y):uez (.alt x y):=by
 intro Q Qs v ve r w least hl h0 hO hv hq hF hL;have HO:Hid (OutQ Q w v r):=hO;have HFX:Hid (ua0 x):=hx;have HFY:Hid (ua0 y):=hy;obtain⟨va,vc,rfl⟩:=hO.shape;obtain⟨vx,vy,rfl,hvx,hvy⟩:=hv;obtain⟨ux,px,rfl⟩:=hvx.iface;obtain⟨uy,py,rfl⟩:=hvy.iface;have HVX:Hid (IsV Qs w x (.iface ux px)):=hvx;have HVY:Hid (IsV Qs w y (.iface uy py)):=hvy;have HQ:Hid (Apart Qs Q w):=hq;have HF:Hid (x.Fine∧y.Fine):=hF;have hl':least≤0:=hl;have HT:Hid ((TX.alt x y).text=grp (x.bind<0) x.text++(ByteArray.mk #[32,47,32])++grp (y.bind<1) y.text):=by show _=_;have hp:=M.TX.bind_pos x;have e:grp (decide (x.bind<0)) x.text=x.text:=(by unfold grp;rw[if_neg (by simp;omega)]);rw[e];rfl
 have HL:Hid (r.size+((grp (x.bind<0) x.text).size+3+(grp (y.bind<1) y.text).size)≤12000000):=by
  have e:(TX.alt x y).text.size=(grp (x.bind<0) x.text).size+3+(grp (y.bind<1) y.text).size:=by rw[HT.out,ByteArray.size_append,ByteArray.size_append];rfl
  show _≤_;rw[e]at hL;exact hL
 clear hO hq hF hL hl hvx hvy hx hy;have hm:=ujd #[(.iface ux px),(.iface uy py)];have a1:=uki #[(.iface ux px),(.iface uy py)];have a2:=ukj #[(.iface ux px),(.iface uy py)];have a3:=ukk #[(.iface ux px),(.iface uy py)];have a4:=ukl #[(.iface ux px),(.iface uy py)];have a5:=ukm #[(.iface ux px),(.iface uy py)];go_enter Tryz.func48,Tryz.ntmps48;go_wp2_with fail;refine (ujl _ _ _).mono ?_;rintro e W1 ⟨rfl,hb1⟩;have B1:Hid (Below w.heap.size w (W1.alloc (.cells #[(.iface ux px),(.iface uy py)] 122))):=uh hb1 (up W1 _);have x0:(W1.alloc (.cells #[(.iface ux px),(.iface uy py)] 122)).cell? ⟨W1.heap.size,0,none⟩=some (.iface ux px):=cN W1.heap.size rfl rfl;have x1:(W1.alloc (.cells #[(.iface ux px),(.iface uy py)] 122)).cell? ⟨W1.heap.size,1,none⟩=some (.iface uy py):=cN W1.heap.size rfl rfl;have HX:Hid (Gone Q (W1.alloc (.cells #[(.iface ux px),(.iface uy py)] 122)) (W1.alloc (.cells #[(.iface ux px),(.iface uy py)] 122)) (.slice va r.size vc) r):=Gone.start (HO.out.later B1.out);have HNQ:Hid (¬Q W1.heap.size):=ui6 HO.out hb1.size;have lb:W1.heap.size<(W1.alloc (.cells #[(.iface ux px),(.iface uy py)] 122)).heap.size:=ub x0;have HQX:Hid (Apart Qs Q (W1.alloc (.cells #[(.iface ux px),(.iface uy py)] 122))):=HQ.out.below B1.out.size;have HVX1:Hid (IsV Qs (W1.alloc (.cells #[(.iface ux px),(.iface uy py)] 122)) x (.iface ux px)):=IsV.later B1.out x (.iface ux px) HVX.out;have HVY1:Hid (IsV Qs (W1.alloc (.cells #[(.iface ux px),(.iface uy py)] 122)) y (.iface uy py)):=IsV.later B1.out y (.iface uy py) HVY.out;have X0:Hid ((W1.alloc (.cells #[(.iface ux px),(.iface uy py)] 122)).cell? ⟨W1.heap.size,1,none⟩=some (.iface uy py)):=x1;clear hb1;go_wp2_with fail;refine (HX.out.call (fun Q' ho hq'=>HFX.out Q' Qs _ (.iface ux px) r _ 0 (by omega) (by omega) ho HVX1.out (HQX.out.next (Nat.le_refl _) hq') HF.out.1 (by have:=HL.out;omega))).mono ?_
 rintro e W2 ⟨a2,c2,r2,rfl,F1,F2,F3⟩;have z1:W2.cell? ⟨W1.heap.size,1,none⟩=some (.iface uy py):=(F3.out.keep.cell (p:=⟨W1.heap.size,1,none⟩) lb HNQ.out).trans X0.out;have l2:W1.heap.size<W2.heap.size:=ub z1;go_wp2_with (at_builtin;refine xw (t:=⟨#[32,47,32]⟩) rfl _ _ 9 rfl rfl rfl F3.out (xW _ ⟨#[32,47,32]⟩) 12000000 4 (by have:=F2.out;have:=HL.out;omega) (by decide) (by omega) (by decide) ?_;intro W3 r3 a3 c3 G1 G2 G3;have z3:W3.cell? ⟨W1.heap.size,1,none⟩=some (.iface uy py):=(G3.out.keep.cell (p:=⟨W1.heap.size,1,none⟩) lb HNQ.out).trans X0.out;have l3:W1.heap.size<W3.heap.size:=ub z3)
 refine (G3.out.call (fun Q' ho hq'=>HFY.out Q' Qs _ (.iface uy py) r3 _ 1 (by omega) (by omega) ho (IsV.on (HQX.out.gone G3.out) y (.iface uy py) HVY1.out) (HQX.out.next G3.out.size hq') HF.out.2 (by have h1:=F2.out;have h2:=HL.out;have h3:=xJ G1.out;have h4:(ByteArray.mk #[32,47,32]).size=3:=rfl;omega))).mono ?_
 rintro e W4 ⟨a4,c4,r4,rfl,J1,J2,J3⟩;go_wp2;go_ret;exact⟨_,rfl,by rw[HT.out,←ByteArray.append_assoc,←ByteArray.append_assoc,←F1.out,←G1.out,←J1.out];exact J3.out.rebase B1.out⟩
end
end Go.Proofs.YthicmmhmmfhncaaGreat
