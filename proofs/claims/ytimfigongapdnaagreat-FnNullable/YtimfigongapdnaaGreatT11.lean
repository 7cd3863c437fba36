import Derived.Test.YtimfigongapdnaaGreatT10
import Derived.Deep.CutRange
set_option linter.unusedVariables false
set_option linter.unusedSimpArgs false
set_option maxHeartbeats 40000000
set_option maxRecDepth 100000
namespace Go.Proofs.YtimfigongapdnaaGreat
open Go.RowKit
open M (OpD ug Gr)
theorem zGVar.putL{b w0 w G m l f g n c i j}{x y:zNC}{u}(h:zGVar b w0 G w m (.slice (some ⟨g,0,none⟩) n c) l f)(t:f[i]? = some x)(q:j<3)(v:yw y=(yw x).set j u)(k:zTg G w 1 g)(r:Ints (zTg G w 2) .u8 w y.na y.d.nm.length (lf y.d.nm))(p:BodP (zTg G w (5+2*i)) w (.slice y.ba y.d.bd.length y.bc) y.d.bd) :
    zGVar b w0 G (w.setCell ⟨g,i*3+j,none⟩ u) m (.slice (some ⟨g,0,none⟩) n c) l (f.set i y):=by
  have s:b≠g:=fun e=>by have o:=k.2;rw[<-e,h.tg]at o;omega
  have hb':(w.setCell ⟨g,i*3+j,none⟩ u).heap[b]? = w.heap[b]?:=Below.heap_setCell _ _ _ _ s;exact⟨(World.cell?_of_block (a:=⟨b,0,none⟩) hb').trans h.c0,(World.cell?_of_block (a:=⟨b,1,none⟩) hb').trans h.c1,(World.frozen?_of_block (a:=⟨b,0,none⟩) hb').trans h.f0,(World.frozen?_of_block (a:=⟨b,1,none⟩) hb').trans h.f1,h.gr.putL t q v k r p,h.tg,by rw[uj];exact h.lt,by rw[uj];exact h.le⟩
theorem zGVar.putR{b w0 w G m f l g n c i j}{x y:zNC}{u}(h:zGVar b w0 G w (.slice (some ⟨g,0,none⟩) n c) m f l)(t:f[i]? = some x)(q:j<2)(v:yX y=(yX x).set j u)(k:zTg G w 0 g)(r:Ints (zTg G w 2) .u8 w y.na y.d.nm.length (lf y.d.nm))(p:BodP (zTg G w (4+2*i)) w (.slice y.ba y.d.bd.length y.bc) y.d.bd) :
    zGVar b w0 G (w.setCell ⟨g,i*2+j,none⟩ u) (.slice (some ⟨g,0,none⟩) n c) m (f.set i y) l:=by
  have s:b≠g:=fun e=>by have o:=k.2;rw[<-e,h.tg]at o;omega
  have hb':(w.setCell ⟨g,i*2+j,none⟩ u).heap[b]? = w.heap[b]?:=Below.heap_setCell _ _ _ _ s;exact⟨(World.cell?_of_block (a:=⟨b,0,none⟩) hb').trans h.c0,(World.cell?_of_block (a:=⟨b,1,none⟩) hb').trans h.c1,(World.frozen?_of_block (a:=⟨b,0,none⟩) hb').trans h.f0,(World.frozen?_of_block (a:=⟨b,1,none⟩) hb').trans h.f1,h.gr.putR t q v k r p,h.tg,by rw[uj];exact h.lt,by rw[uj];exact h.le⟩
theorem zGVar.tagged{c w0 w w' G g e v f d D}(h:zGVar c w0 G w g e f d)(k:Keep (fun _=>False) w w')(i:BodP (New w w') w' v D)a:zGVar c w0 (vH G w a) w' g e f d/\BodP (zTg (vH G w a) w' a) w' v D :=
  ⟨h.later k (fun _ q=>q.elim) a,i.wide (fun b q=>ufu q)⟩
def tdI(a:Nat)(w0 w W1:World)(i h:Value)(f:List zNC)(e:List zNL)(g:Value)(wr:World):Prop :=
  ∃(k:Nat) (G:Nat->Nat) (c:List zNC),k<=e.length/\g=.int .i64 (k:Int)/\zGVar a w0 G wr i h f c/\c.map (·.d)=vD (f.map (·.d)) e k/\Keep (fun b=>w0.heap.size<=b/\b<w.heap.size) W1 wr/\G (a+1)=3
def tdJ(e:Nat)(w0 w W1:World)(h g:Value)(c:List zNC)(L:List zNL)(k:Nat)(z:List Int)(f:Value)(wr:World):Prop :=
  ∃(j:Nat) (G:Nat->Nat) (a:List zNC) (x:zNC),j<=c.length/\f=.int .i64 (j:Int)/\zGVar e w0 G wr h g c a/\a[k]? = some x/\x.d=(if ((c.map (·.d)).take j).any (fun r=>kL r.bd k) then ⟨z,false,[]⟩ else ⟨z,true,uq 0 0⟩)/\a.map (·.d)=L.set k x.d/\Keep (fun b=>w0.heap.size<=b/\b<w.heap.size) W1 wr/\G (e+1)=3
def zTwo(rb:Nat)(w:World):Prop:=w.cell? ⟨rb,0,none⟩=some (.slice none 0 0)/\w.cell? ⟨rb,1,none⟩=some (.slice none 0 0)/\w.frozen? ⟨rb,0,none⟩=false/\w.frozen? ⟨rb,1,none⟩=false
theorem zTwo.keep{rb w w' C}(h:zTwo rb w)(k:Keep C w w')(c:¬C rb):zTwo rb w':=by
  have b:=k.block rb (ud h.1) c;exact⟨(World.cell?_of_block (a:=⟨rb,0,none⟩) b).trans h.1,(World.cell?_of_block (a:=⟨rb,1,none⟩) b).trans h.2.1,(World.frozen?_of_block (a:=⟨rb,0,none⟩) b).trans h.2.2.1,(World.frozen?_of_block (a:=⟨rb,1,none⟩) b).trans h.2.2.2⟩
theorem ucW(w:World){t}:zTwo w.heap.size (w.alloc (.cells #[.slice none 0 0,.slice none 0 0] t)):=by
  have h:=ueG w (t:=t);exact⟨h.c0,h.c1,h.f0,h.f1⟩
theorem ug3{i rb w0 w G g d u0 u1 f c}(h:zGVar i w0 G w g d f c)(k:G rb=3):zGrP w0 G ((w.setCell ⟨rb,0,none⟩ u0).setCell ⟨rb,1,none⟩ u1) g d f c :=
  h.gr.on (by rw[uj,uj];exact Nat.le_refl _) (fun b j l=>by
    have a:b≠rb:=fun e=>l (e▸k)
    rw[Below.heap_setCell _ _ _ _ a,Below.heap_setCell _ _ _ _ a]) (fun b j=>rfl) h.gr.new
theorem js b a k:(vD b a k).length=a.length:=by unfold vD;simp
theorem umA{b a k}{x:zNL}(h:(vD b a k)[k]? = some x):vD b a (k+1)=(vD b a k).set k (ueH b k x):=by
  have d:k<a.length:=by have:=(List.getElem?_eq_some_iff.1 h).1;rwa [js]at this
  have f:a[k]? = some x:=by
    unfold vD at h;rw[List.getElem?_mapIdx]at h;cases e:a[k]? with
    |none=>rw[e]at h;cases h
    |some y=>rw[e]at h;simp at h;rw[h]
  apply List.ext_getElem?
  intro j;by_cases e:j=k
  · subst e
    rw[List.getElem?_set_self (by rw[js];exact d)]
    unfold vD;rw[List.getElem?_mapIdx,f];simp
  · rw[List.getElem?_set_ne (by omega)]
    unfold vD;rw[List.getElem?_mapIdx,List.getElem?_mapIdx];cases a[j]? with
    |none=>rfl
    |some y =>
      simp only[Option.map_some];by_cases c:j<k
      · rw[if_pos (by omega),if_pos c]
      · rw[if_neg (by omega),if_neg c]
theorem uip b a:vD b a 0=a:=by
  apply List.ext_getElem?
  intro j;unfold vD;rw[List.getElem?_mapIdx];cases a[j]?<;>simp
theorem ug4{w0 w G c b e d}(h:zGrP w0 G w c b e d)(f:w0.heap.size<=w.heap.size){t}:zGVar w.heap.size w0 (vH G w 3) (w.alloc (.cells #[c,b] t)) c b e d:=by
  have a:=World.alloc_heap_new w (.cells #[c,b] t);refine⟨?_,?_,?_,?_,h.later (Keep.alloc (fun _=>False) _ _) (fun _ q=>q.elim) 3 f,yY (Nat.le_refl _),by simp,by simp;omega⟩
  · simp only[World.cell?,a];rfl
  · simp only[World.cell?,a];rfl
  · simp only[World.frozen?,a];rfl
  · simp only[World.frozen?,a];rfl
theorem umB{α:Type}{l:List α}{k:Nat}{x:α}(h:l[k]? = some x):l.set k x=l:=by
  apply List.ext_getElem?
  intro j;by_cases e:j=k
  · subst e;rw[List.getElem?_set_self (List.getElem?_eq_some_iff.1 h).1,h]
  · rw[List.getElem?_set_ne (by omega)]
def utj(w0:World)(h f:Value)(g:List zNC)(c:List zNL)(w:World)(e:Ending)(w':World):Prop :=
  ∃i a,e=.returned (.agg #[h,f])/\zGrP w0 i w' h f g a/\a.map (·.d)=vD (g.map (·.d)) c c.length/\Keep (fun b=>w0.heap.size<=b) w w'
theorem uiq w0 w G o la i lc a p(h:zGrP w0 G w (.slice o a.length i) (.slice la p.length lc) a p)(hz:w0.heap.size<=w.heap.size)(hr:a.length<=1000)(hl:p.length<=1000)(hb:∀x∈a,x.d.bd.length<=1048576) :
    Calls Tryz.prog 91 #[.agg #[.slice o a.length i,.slice la p.length lc]] w (utj w0 (.slice o a.length i) (.slice la p.length lc) a (p.map (·.d)) w):=by
  have HB:Hid (∀x∈a,x.d.bd.length<=1048576):=hb;obtain⟨s,aj⟩:∃l,p.map (·.d)=l:=⟨_,rfl⟩
  have a4:p.length=s.length:=by rw[<-aj,List.length_map]
  have ao:Hid (zGVar w.heap.size w0 (vH G w 3) (w.alloc (.cells #[.slice o a.length i,.slice la p.length lc] 28)) (.slice o a.length i) (.slice la p.length lc) a p):=ug4 h hz;have bj:Hid (zGVar w.heap.size w0 (vH (vH G w 3) (w.alloc (.cells #[.slice o a.length i,.slice la p.length lc] 28)) 3) ((w.alloc (.cells #[.slice o a.length i,.slice la p.length lc] 28)).alloc (.cells #[.slice none 0 0,.slice none 0 0] 28)) (.slice o a.length i) (.slice la p.length lc) a p):=ao.out.later (Keep.alloc (fun _=>False) _ _) (fun _ q=>q.elim) 3
  have bq:Hid (zTwo (w.heap.size+1) ((w.alloc (.cells #[.slice o a.length i,.slice la p.length lc] 28)).alloc (.cells #[.slice none 0 0,.slice none 0 0] 28))):=by
    show zTwo _ _;have:=ucW (w.alloc (.cells #[.slice o a.length i,.slice la p.length lc] 28)) (t:=28);simpa using this
  have ap:Hid (p.map (·.d)=s):=aj
  have HZ:Hid (w0.heap.size<=w.heap.size):=hz;have bi:Hid (0<p.length->∃g,la=some ⟨g,0,none⟩/\g<w.heap.size/\w0.heap.size<=g):=fun hp=>by
    obtain⟨g,c,e,hq,_⟩:=h.labs.at_ hp;exact⟨g,by injection e,hq.1,h.new g (by rw[hq.2];omega)⟩
  have bm:Hid (Keep (fun _=>False) w ((w.alloc (.cells #[.slice o a.length i,.slice la p.length lc] 28)).alloc (.cells #[.slice none 0 0,.slice none 0 0] 28))):=(Keep.alloc _ _ _).trans (Keep.alloc _ _ _)
  have cc:((w.alloc (.cells #[.slice o a.length i,.slice la p.length lc] 28)).alloc (.cells #[.slice none 0 0,.slice none 0 0] 28)).heap.size=w.heap.size+2:=by simp
  have bh:Hid (vH (vH G w 3) (w.alloc (.cells #[.slice o a.length i,.slice la p.length lc] 28)) 3 (w.heap.size+1)=3):=yY (by simp)
  clear h hb aj ao hz;generalize hm:p.length=m at *;generalize hn:a.length=n at *;have R:Hid (a.length=n):=hn;have Z:Hid (s.length=m):=a4.symm;rw[ap.out];clear hm hn a4;go_enter Tryz.func91,Tryz.ntmps91;go_wp2_with fail;generalize (w.alloc (.cells #[.slice o n i,.slice la m lc] 28)).alloc (.cells #[.slice none 0 0,.slice none 0 0] 28)=W1 at *;go_loopw [3] (fun iv wr=>tdI w.heap.size w0 w W1 (.slice o n i) (.slice la m lc) a s iv wr) (fun iv _=>m-(intOf iv).toNat)
  case atStart=>exact⟨0,_,p,Nat.zero_le _,rfl,bj.out,by rw[uip];exact ap.out,Keep.refl _ _,bh.out⟩
  case round =>
    obtain⟨k,C,z,hk,rfl,B,ak,N,ab⟩:=hrel;have c0:=B.c0;have c1:=B.c1;have ce:=N.size;have H:Hid (zGVar w.heap.size w0 C wr (.slice o n i) (.slice la m lc) a z):=B;have Q:Hid (z.map (·.d)=vD (a.map (·.d)) s k):=ak
    have P:Hid (Keep (fun b=>w0.heap.size<=b/\b<w.heap.size) W1 wr):=N
    have a5:z.length=s.length:=by rw[<-List.length_map (f:=(·.d)),ak,js]
    rw[Z.out]at hk a5;clear B ak N;by_cases cb:k<m
    · have hlt':(k:Int)<(m:Int):=by omega
      have Y:z[k]? = some z[k]:=List.getElem?_eq_getElem (by omega)
      obtain⟨x,a9⟩:∃y,z[k]=y:=⟨_,rfl⟩;rw[a9]at Y;have J:Hid (z[k]? = some x):=Y;have HT:Hid (vD (a.map (·.d)) s (k+1)=(vD (a.map (·.d)) s k).set k (ueH (a.map (·.d)) k x.d)):=umA (by rw[<-Q.out,List.getElem?_map,Y];rfl)
      obtain⟨g,c,e,ai,bw,x0,x1,x2,bs,au⟩:=H.out.gr.labelAt Y;obtain rfl:la=some ⟨g,0,none⟩:=by injection e
      have an:Hid (zTg C wr 1 g):=ai;have E:g<w.heap.size/\w0.heap.size<=g:=by
        obtain⟨g',e',h1,h2⟩:=bi.out (by omega)
        cases e'
        exact⟨h1,h2⟩
      have b7:=ai.1;clear a9 Y e ai bw a5;by_cases hh:x.d.has=true
      · rw[hh]at x1
        have F:Hid (tdI w.heap.size w0 w W1 (.slice o n i) (.slice (some ⟨g,0,none⟩) m lc) a s (.int .i64 ((k+1:Nat):Int)) wr):=⟨k+1,C,z,by have:=Z.out;omega,rfl,H.out,by rw[HT.out,ueH,if_pos hh,<-Q.out,umB (by rw[List.getElem?_map,J.out];rfl)],P.out,ab⟩
        go_wp2;go_roundw;all_goals first|exact F.out|(simp[intOf];omega)
      · have hh':x.d.has=false:=by simpa using hh
        rw[hh']at x1;have ae:Hid (zGVar w.heap.size w0 C (wr.setCell ⟨g,k*3+1,none⟩ (.bool true)) (.slice o n i) (.slice (some ⟨g,0,none⟩) m lc) a (z.set k ⟨⟨x.d.nm,true,x.d.bd⟩,x.na,x.nc,x.ba,x.bc⟩)):=H.out.putL J.out (by omega) (by simp[yw]) an.out (H.out.gr.ln x (List.mem_of_getElem? J.out)) (H.out.gr.lb k x J.out)
        have bn:Hid (Keep (fun b=>w0.heap.size<=b/\b<w.heap.size) W1 (wr.setCell ⟨g,k*3+1,none⟩ (.bool true))):=P.out.trans (Keep.setCell _ _ _ ⟨E.2,E.1⟩)
        have bt:(wr.setCell ⟨g,k*3+1,none⟩ (.bool true)).frozen? ⟨g,k*3+2,none⟩=false:=by rw[World.frozen?_setCell];exact au
        have b6:w.heap.size<wr.heap.size:=ud c0;have bp:Hid (wr.heap.size=(wr.setCell ⟨g,k*3+1,none⟩ (.bool true)).heap.size):=(uj _ _ _).symm;go_wp2_with fail;generalize bu:wr.setCell ⟨g,k*3+1,none⟩ (.bool true)=S at *;have a1:=ae.out.c1;have am:(z.set k ⟨⟨x.d.nm,true,x.d.bd⟩,x.na,x.nc,x.ba,x.bc⟩)[k]? = some ⟨⟨x.d.nm,true,x.d.bd⟩,x.na,x.nc,x.ba,x.bc⟩:=List.getElem?_set_self (List.getElem?_eq_some_iff.1 J.out).1;obtain⟨g',c',e',bx,_,y0,y1,y2,b4,b5⟩:=ae.out.gr.labelAt am;obtain rfl:g=g':=by injection e' with e1;injection e1 with e1;injection e1 with e1
        have aa:Hid ((z.set k ⟨⟨x.d.nm,true,x.d.bd⟩,x.na,x.nc,x.ba,x.bc⟩)[k]? = some ⟨⟨x.d.nm,true,x.d.bd⟩,x.na,x.nc,x.ba,x.bc⟩):=am;clear am e' bx y0 y1 x0 x1 x2 bs au bt c0 c1 bu;have bb:(z.set k ⟨⟨x.d.nm,true,x.d.bd⟩,x.na,x.nc,x.ba,x.bc⟩).map (·.d)=(vD (a.map (·.d)) s k).set k ⟨x.d.nm,true,x.d.bd⟩:=by rw[List.map_set,Q.out]
        have br:Hid ((z.set k ⟨⟨x.d.nm,true,x.d.bd⟩,x.na,x.nc,x.ba,x.bc⟩).map (·.d)=(vD (a.map (·.d)) s k).set k ⟨x.d.nm,true,x.d.bd⟩):=bb
        have HG3':Hid (C (w.heap.size+1)=3):=ab;have cd:wr.heap.size=S.heap.size:=bp.out;clear bb ab Q J H P an;generalize ca:z.set k ⟨⟨x.d.nm,true,x.d.bd⟩,x.na,x.nc,x.ba,x.bc⟩=b2 at *;go_cut [3] from 5 to 54 (fun v wc=>v=.int .i64 (k:Int)/\tdJ w.heap.size w0 w W1 (.slice o n i) (.slice (some ⟨g,0,none⟩) m lc) a (vD (a.map (·.d)) s k) k x.d.nm (.int .i64 0) wc)
        case first =>
          go_region_law
            (refine yk jH rfl (.const (.int .i64 0)) (.const (.int .i64 0)) 3 3 rfl (y1:=.int .i64 0) (y2:=.int .i64 0) rfl rfl ((vQ 0 0 S.drew).mono ?_)
             rintro e W2 ⟨ba,bc,rfl,ax,a3⟩;have k2:Keep (fun _=>False) S W2:=(Keep.drew _ _).trans a3
             have hb2':BodP (New S W2) W2 (.slice ba (uq 0 0).length bc) (uq 0 0):=ax;obtain⟨T,aw⟩:=ae.out.tagged k2 hb2' (5+2*k);have z1:=T.c1;have zl:=ud z1;obtain⟨g2,c2,e2,az,_,_,_,s2,_,q2⟩:=T.gr.labelAt aa.out;obtain rfl:g=g2:=by injection e2 with e1;injection e1 with e1;injection e1 with e1
             have bg:Hid (tdJ w.heap.size w0 w W1 (.slice o n i) (.slice (some ⟨g,0,none⟩) m lc) a (vD (a.map (·.d)) s k) k x.d.nm (.int .i64 0) (W2.setCell ⟨g,k*3+2,none⟩ (.slice ba (uq 0 0).length bc))):=⟨0,vH C S (5+2*k),b2.set k ⟨⟨x.d.nm,true,uq 0 0⟩,x.na,x.nc,ba,bc⟩,⟨⟨x.d.nm,true,uq 0 0⟩,x.na,x.nc,ba,bc⟩,Nat.zero_le _,rfl,T.putL aa.out (by omega) (by simp[yw]) az (T.gr.ln ⟨⟨x.d.nm,true,x.d.bd⟩,x.na,x.nc,x.ba,x.bc⟩ (List.mem_of_getElem? aa.out)) aw,List.getElem?_set_self (List.getElem?_eq_some_iff.1 aa.out).1,by simp,by rw[List.map_set,br.out,List.set_set],(bn.out.trans (k2.mono (fun _ q=>q.elim))).trans (Keep.setCell _ _ _ ⟨E.2,E.1⟩),by rw[uR (by omega)];exact HG3'.out⟩
             clear ax a3 k2 hb2' T aw e2 az;refine⟨_,rfl,?_⟩)
          all_goals go_goals
          all_goals go_wp2_with fail
          all_goals go_meet
          all_goals exact⟨rfl,bg⟩
        case rest =>
          obtain⟨rfl,a2⟩:=hcut;have bk:=ua a2;clear a2;go_wp2_with fail;go_loopw [4] (fun jv wx=>tdJ w.heap.size w0 w W1 (.slice o n i) (.slice (some ⟨g,0,none⟩) m lc) a (vD (a.map (·.d)) s k) k x.d.nm jv wx) (fun jv _=>n-(intOf jv).toNat)
          case atStart=>exact bk
          case round =>
            obtain⟨j,I,O,y,hj,rfl,B,hy,be,a6,N,ay⟩:=hrel;rw[R.out]at hj;have c0:=B.c0;have c1:=B.c1;have D:Hid (zGVar w.heap.size w0 I wr (.slice o n i) (.slice (some ⟨g,0,none⟩) m lc) a O):=B;have L:Hid (O[k]? = some y):=hy;have ah:Hid (y.d=(if ((a.map (·.d)).take j).any (fun r=>kL r.bd k) then ⟨x.d.nm,false,[]⟩ else ⟨x.d.nm,true,uq 0 0⟩)):=be
            have ag:Hid (O.map (·.d)=(vD (a.map (·.d)) s k).set k y.d):=a6
            have af:Hid (Keep (fun b=>w0.heap.size<=b/\b<w.heap.size) W1 wr):=N
            have ad:Hid (I (w.heap.size+1)=3):=ay;clear B hy be a6 N ay;by_cases b9:j<n
            · have hjn':(j:Int)<(n:Int):=by omega
              obtain⟨A,W⟩:∃y,a[j]? = some y:=⟨_,List.getElem?_eq_getElem (by have:=R.out;omega)⟩
              have aq:Hid ((a.map (·.d)).take (j+1)=(a.map (·.d)).take j++[A.d]):=by
                rw[List.take_add_one,List.getElem?_map,W];rfl
              obtain⟨g0,b3,e0,_,_,_,r1,_,_⟩:=D.gr.ruleAt W;obtain rfl:o=some ⟨g0,0,none⟩:=by injection e0
              have a7:=(D.gr.rb j A W).ops;have b0:=HB A (List.mem_of_getElem? W);have bo:=ua a7;clear W e0 a7;go_wp2_with fail;refine (jE _ A.ba A.d.bd.length A.bc k (df A.d.bd) wr bo b0).mono ?_;rintro e w5 ⟨⟨r,rfl,V⟩,rfl⟩;rw[ugK]at V;cases r with
              |false =>
                have X:kL A.d.bd k=false:=by
                  cases ht:kL A.d.bd k with
                  |false=>rfl
                  |true=>exact absurd (V.2 ht) (by simp)
                have F:Hid (tdJ w.heap.size w0 w W1 (.slice (some ⟨g0,0,none⟩) n i) (.slice (some ⟨g,0,none⟩) m lc) a (vD (a.map (·.d)) s k) k x.d.nm (.int .i64 ((j+1:Nat):Int)) wr):=⟨j+1,I,O,y,by have:=R.out;omega,rfl,D.out,L.out,by rw[aq.out,List.any_append,ah.out];simp[X],ag.out,af.out,ad.out⟩
                clear V X;go_wp2;go_roundw;all_goals first|exact F|(simp[intOf];omega)
              |true =>
                have X:kL A.d.bd k=true:=V.1 rfl;obtain⟨g5,c5,e5,U,_,_,s1,s2,q1,q2⟩:=D.gr.labelAt L;obtain rfl:g=g5:=by injection e5 with e1;injection e1 with e1;injection e1 with e1
                have b8:=U.1;have al:=D.putL (y:=⟨⟨y.d.nm,false,y.d.bd⟩,y.na,y.nc,y.ba,y.bc⟩) (u:=.bool false) L (show 1<3 by omega) (by simp[yw]) U (D.gr.ln y (List.mem_of_getElem? L)) (D.gr.lb k y L)
                have ac:(O.set k ⟨⟨y.d.nm,false,y.d.bd⟩,y.na,y.nc,y.ba,y.bc⟩)[k]? = some ⟨⟨y.d.nm,false,y.d.bd⟩,y.na,y.nc,y.ba,y.bc⟩:=List.getElem?_set_self (List.getElem?_eq_some_iff.1 L.out).1;have a0:zTg I (wr.setCell ⟨g,k*3+1,none⟩ (.bool false)) 1 g:=⟨by rw[uj];exact U.1,U.2⟩
                have a8:=al.putL (y:=⟨⟨y.d.nm,false,[]⟩,y.na,y.nc,none,0⟩) (u:=.slice none 0 0) ac (show 2<3 by omega) (by simp[yw]) a0 (al.gr.ln ⟨⟨y.d.nm,false,y.d.bd⟩,y.na,y.nc,y.ba,y.bc⟩ (List.mem_of_getElem? ac)) (ugJ _ _)
                have bf:y.d.nm=x.d.nm:=by rw[ah.out];split<;>rfl
                have F:Hid (tdJ w.heap.size w0 w W1 (.slice (some ⟨g0,0,none⟩) n i) (.slice (some ⟨g,0,none⟩) m lc) a (vD (a.map (·.d)) s k) k x.d.nm (.int .i64 ((j+1:Nat):Int)) ((wr.setCell ⟨g,k*3+1,none⟩ (.bool false)).setCell ⟨g,k*3+2,none⟩ (.slice none 0 0))):=⟨j+1,I,_,_,by have:=R.out;omega,rfl,a8,List.getElem?_set_self (List.getElem?_eq_some_iff.1 ac).1,by rw[aq.out,List.any_append];simp[X,bf],by rw[List.map_set,List.map_set,ag.out,List.set_set,List.set_set],(af.out.trans (Keep.setCell _ _ _ ⟨E.2,E.1⟩)).trans (Keep.setCell _ _ _ ⟨E.2,E.1⟩),ad.out⟩
                clear V X al a8 ac a0 U e5 bf;go_wp2;go_roundw;all_goals first|exact F|(simp[intOf];omega)
            · obtain rfl:j=n:=by omega
              have av:(a.map (·.d)).take j=a.map (·.d):=List.take_of_length_le (by rw[List.length_map,R.out];exact Nat.le_refl _)
              have F:Hid (tdI w.heap.size w0 w W1 (.slice o j i) (.slice (some ⟨g,0,none⟩) m lc) a s (.int .i64 ((k+1:Nat):Int)) wr):=⟨k+1,I,O,by have:=Z.out;omega,rfl,D.out,by rw[HT.out,ag.out,ah.out,av,ueH,hh'];rfl,af.out,ad.out⟩
              clear av;go_wp2;go_roundw;all_goals first|exact F|(simp[intOf];omega)
    · obtain rfl:k=m:=by omega
      have bz:=bq.keep P (fun q=>by omega)
      obtain⟨t0,t1,g0,g1⟩:=bz;have HO:Hid (zGrP w0 C ((wr.setCell ⟨w.heap.size+1,0,none⟩ (.slice o n i)).setCell ⟨w.heap.size+1,1,none⟩ (.slice la k lc)) (.slice o n i) (.slice la k lc) a z):=ug3 H.out ab;have bl:Hid (Keep (fun b=>w0.heap.size<=b) w ((wr.setCell ⟨w.heap.size+1,0,none⟩ (.slice o n i)).setCell ⟨w.heap.size+1,1,none⟩ (.slice la k lc))):=uda (uda ((bm.out.mono (fun _ q=>q.elim)).trans (P.out.mono (fun _ q=>q.1))) (by omega)) (by omega)
      go_wp2;refine bodyPost_ret (v:=.agg #[.slice o n i,.slice la k lc]) ?_ rfl ?_
      · simp[results,Tryz.f91,go_sem, *]
      · exact⟨C,z,rfl,HO,by rw[Z.out];exact Q,bl⟩
section
open Go.RowKit
open M (OpD ug Gr)
def ugU(l:List zNL)(i:Nat):zNL:=l.getD i default
def qg(l:List zNL)(i:Nat)(D:List OpD):List zNL:=l.set i ⟨(ugU l i).nm,(ugU l i).has,D⟩
def ueM(t:Tp)(i:Nat)(d c:List zNL):(List zNL×List zNL)×Nat :=
 let k:=t.v i%5
 let a:=t.v (t.n i)%d.length
 let b:=t.v (t.n (t.n i))%d.length
 let j:=t.n (t.n (t.n i))
 let x:=(ugU d a).bd
 if k=0 then ((qg d a (uI 5 x (uq 2 (b:Int))),c),j)
 else if k=1 then ((qg d a (uI 4 (unD 7 (uq 2 (b:Int))) x),c),j)
 else if k=2 then ((qg d a (unD 6 x),c),j)
 else if k=3/\0<c.length then
  let m:=b%c.length
  ((qg d a (uI 5 x (uq 3 (m:Int))),c.set m ⟨(ugU c m).nm,true,uI 4 (uq 0 0) (uq 2 (a:Int))⟩),j)
 else ((qg d a (uI 4 (unD 6 (uF (vz 97))) (uq 2 (b:Int))),c),j)
def DrX(t:Tp)(R:Nat)(w0:World)(a:Nat->Nat)(g:(List zNL×List zNL)×Nat)(w:World)(e:Ending)(w':World):Prop :=
 ∃i f G h c,e=.returned (.agg #[i,f])/\zGrP w0 G w' i f h c/\h.map (·.d)=g.1.1/\c.map (·.d)=g.1.2/\RdA t R w' g.2/\Keep (λb=>b=R\/(w0.heap.size<=b/\¬(b<w.heap.size/\a b=3))) w w'/\∀b,b<w.heap.size->a b=3->G b=3
theorem udd{l:List zNC}{i:Nat}{x:zNC}(h:l[i]?=some x):ugU (l.map (·.d)) i=x.d:=by
 unfold ugU;rw[List.getD_eq_getElem?_getD,List.getElem?_map,h];rfl
structure LpS(t:Tp)(R:Nat)(w0 w:World)(G0:Nat->Nat)(gb:Nat)(G:Nat->Nat)(W:World)(rv lv:Value)(rs ls:List zNC)(i:Nat):Prop where
 gv:zGVar gb w0 G W rv lv rs ls
 tw:zTwo (gb+1) W
 tg:G (gb+1)=3
 rd:RdA t R W i
 kp:Keep (λb=>b=R\/(w0.heap.size<=b/\¬(b<w.heap.size/\G0 b=3))) w W
 og:∀b,b<w.heap.size->G0 b=3->G b=3
 gw:w.heap.size<=gb
theorem LpS.on{t R w0 w c a G W V m g l f i j}(h:LpS t R w0 w c a G W m g l f i)(k:RdOn t R j W V)(n:R<w0.heap.size/\w0.heap.size<=a):LpS t R w0 w c a (vH G W 3) V m g l f j :=
 ⟨h.gv.later k.2 (λb e=>⟨by omega,by omega⟩) 3,h.tw.keep k.2 (λe=>by omega),by rw[uR (ud h.tw.1)];exact h.tg,k.1,h.kp.trans (k.2.mono (λb e=>.inl e)),λb d q=>by rw[uR (Nat.lt_of_lt_of_le d h.kp.size)];exact h.og b d q,h.gw⟩
variable {t:Tp} {R gb i g n c a:Nat} {w0 w W V:World} {G0 G:Nat->Nat} {rv lv:Value} {rs ls:List zNC} {x:zNC} {ba:Option Addr} {bc:Nat} {D:List OpD}
theorem LpS.put{o:Nat}{v:Value}(h:LpS t R w0 w G0 gb G W rv lv rs ls i)(s:R<w0.heap.size/\w0.heap.size<=gb)(k:RdOn t R i W V)(c:G g≠3){a:Nat->Nat}{m l:List zNC}(f:∀b,b<W.heap.size->a b=G b)(n:zGVar gb w0 a (V.setCell ⟨g,o,none⟩ v) rv lv m l) :
  LpS t R w0 w G0 gb a (V.setCell ⟨g,o,none⟩ v) rv lv m l i:=by
 have u:w0.heap.size<=g:=h.gv.gr.new g c;have p:¬(g<w.heap.size/\G0 g=3):=λq=>c (h.og g q.1 q.2)
 have r:gb+1≠g:=λe=>c (e▸h.tg)
 have d:Keep (λb=>b=g) V (V.setCell ⟨g,o,none⟩ v):=Keep.setCell _ _ _ rfl;exact⟨n,(h.tw.keep k.2 (λe=>by omega)).keep d r,(f _ (ud h.tw.1)).trans h.tg,k.1.keep d (λb e=>by omega),(h.kp.trans (k.2.mono (λ_ e=>.inl e))).trans (d.mono (λb e=>.inr ⟨by omega,e▸p⟩)),λb j q=>(f b (Nat.lt_of_lt_of_le j h.kp.size)).trans (h.og b j q),h.gw⟩
theorem LpS.rule(h:LpS t R w0 w G0 gb G W (.slice (some ⟨g,0,none⟩) n c) lv rs ls i)(p:R<w0.heap.size/\w0.heap.size<=gb)(k:RdOn t R i W V)(j:BodP (New W V) V (.slice ba D.length bc) D)(m:rs[a]?=some x)(f:zTg G W 0 g) :
  ∃o,LpS t R w0 w G0 gb o (V.setCell ⟨g,a*2+1,none⟩ (.slice ba D.length bc)) (.slice (some ⟨g,0,none⟩) n c) lv (rs.set a ⟨⟨x.d.nm,x.d.has,D⟩,x.na,x.nc,ba,bc⟩) ls i:=by
 have l:=h.gv.later k.2 (λb e=>⟨by omega,by omega⟩) (4+2*a);have r:=k.2.size;exact⟨_,h.put p k (by rw[f.2];omega) (λb j=>uR j) (l.putR m (by omega) (by simp[yX]) ⟨by have:=f.1;omega,by rw[uR f.1];exact f.2⟩ (l.gr.rn x (List.mem_of_getElem? m)) (j.wide (λb q=>ufu q)))⟩
theorem LpS.label(h:LpS t R w0 w G0 gb G W rv (.slice (some ⟨g,0,none⟩) n c) rs ls i)(p:R<w0.heap.size/\w0.heap.size<=gb)(k:RdOn t R i W V)(j:BodP (New W V) V (.slice ba D.length bc) D)(m:ls[a]?=some x)(f:zTg G W 1 g) :
  ∃o,LpS t R w0 w G0 gb o (V.setCell ⟨g,a*3+2,none⟩ (.slice ba D.length bc)) rv (.slice (some ⟨g,0,none⟩) n c) rs (ls.set a ⟨⟨x.d.nm,x.d.has,D⟩,x.na,x.nc,ba,bc⟩) i:=by
 have l:=h.gv.later k.2 (λb e=>⟨by omega,by omega⟩) (5+2*a);have r:=k.2.size;exact⟨_,h.put p k (by rw[f.2];omega) (λb j=>uR j) (l.putL m (by omega) (by simp[yw]) ⟨by have:=f.1;omega,by rw[uR f.1];exact f.2⟩ (l.gr.ln x (List.mem_of_getElem? m)) (j.wide (λb q=>ufu q)))⟩
theorem LpS.has(h:LpS t R w0 w G0 gb G W rv (.slice (some ⟨g,0,none⟩) n c) rs ls i)(j:R<w0.heap.size/\w0.heap.size<=gb)(e:ls[a]?=some x)(f:zTg G W 1 g) :
  LpS t R w0 w G0 gb G (W.setCell ⟨g,a*3+1,none⟩ (.bool true)) rv (.slice (some ⟨g,0,none⟩) n c) rs (ls.set a ⟨⟨x.d.nm,true,x.d.bd⟩,x.na,x.nc,x.ba,x.bc⟩) i :=
 h.put j (RdOn.refl h.rd) (by rw[f.2];omega) (λb k=>rfl) (h.gv.putL e (by omega) (by simp[yw]) f (h.gv.gr.ln x (List.mem_of_getElem? e)) (h.gv.gr.lb a x e))
theorem LpS.ruleC(h:LpS t R w0 w G0 gb G W (.slice (some ⟨g,0,none⟩) n c) lv rs ls i)(p:R<w0.heap.size/\w0.heap.size<=gb)(l:rs[a]?=some x)(d:Dr t R i W V):V.cell? ⟨gb,0,none⟩=some (.slice (some ⟨g,0,none⟩) n c)/\gb<V.heap.size/\V.cell? ⟨g,a*2+1,none⟩=some (.slice x.ba x.d.bd.length x.bc)/\V.frozen? ⟨g,a*2+1,none⟩=false:=by
 have f:=h.gv.later d.1.2 (λb e=>⟨by omega,by omega⟩) 3;obtain⟨k,_,j,_,_,_,m,_,o⟩:=f.gr.ruleAt l;obtain rfl:g=k:=by injection j with e1;injection e1 with e1;injection e1 with e1
 exact⟨f.c0,f.lt,m,o⟩
theorem LpS.labelC(h:LpS t R w0 w G0 gb G W rv (.slice (some ⟨g,0,none⟩) n c) rs ls i)(p:R<w0.heap.size/\w0.heap.size<=gb)(l:ls[a]?=some x)(d:Dr t R i W V):V.cell? ⟨gb,1,none⟩=some (.slice (some ⟨g,0,none⟩) n c)/\gb<V.heap.size/\V.cell? ⟨g,a*3+2,none⟩=some (.slice x.ba x.d.bd.length x.bc)/\V.frozen? ⟨g,a*3+2,none⟩=false:=by
 have f:=h.gv.later d.1.2 (λb e=>⟨by omega,by omega⟩) 3;obtain⟨k,_,j,_,_,_,_,m,_,o⟩:=f.gr.labelAt l;obtain rfl:g=k:=by injection j with e1;injection e1 with e1;injection e1 with e1
 exact⟨f.c1,f.lt,m,o⟩
theorem LpS.ob(h:LpS t R w0 w G0 gb G W rv lv rs ls i)(j:R<w0.heap.size)(k:rs[a]?=some x)(c:0<x.d.bd.length/\xG x.d.bd.length (df x.d.bd)):Ob R W x.ba x.d.bd :=
 ⟨(h.gv.gr.rb a x k).ops.wide (λb q e=>by have f:=h.gv.tagR j;have g:=q.2;rw[e,f]at g;omega),c.2,c.1⟩
theorem LpS.fin{t R w0 w k a G W f c j g i}{p:(List zNL×List zNL)×Nat}(h:LpS t R w0 w k a G W f c j g i)(n:R<w0.heap.size/\w0.heap.size<=a)(m:((j.map (·.d),g.map (·.d)),i)=p):DrX t R w0 k p w (.returned (.agg #[f,c])) ((W.setCell ⟨a+1,0,none⟩ f).setCell ⟨a+1,1,none⟩ c):=by
 subst m;have l:Keep (λb=>b=a+1) W ((W.setCell ⟨a+1,0,none⟩ f).setCell ⟨a+1,1,none⟩ c):=(Keep.setCell (C:=λb=>b=a+1) W ⟨a+1,0,none⟩ f rfl).trans (Keep.setCell (C:=λb=>b=a+1) _ ⟨a+1,1,none⟩ c rfl);exact⟨f,c,G,j,g,rfl,ug3 h.gv h.tg,rfl,rfl,h.rd.keep l (λb e=>by omega),h.kp.trans (l.mono (λb e=>.inr ⟨by omega,λq=>by have:=h.gw;omega⟩)),h.og⟩
theorem umq{t R w0 w G c a g f i}(h:zGrP w0 G w c a g f)(r:w0.heap.size<=w.heap.size)(p:RdA t R w i)(s:R<w0.heap.size):∃k,LpS t R w0 w G w.heap.size k ((w.alloc (.cells #[c,a] 28)).alloc (.cells #[.slice none 0 0,.slice none 0 0] 28)) c a g f i:=by
 have m:=ug4 h r (t:=28);have n:=m.later (Keep.alloc (λ_=>False) _ (.cells #[.slice none 0 0,.slice none 0 0] 28)) (λ_ e=>e.elim) 3;have l:(w.alloc (.cells #[c,a] 28)).heap.size=w.heap.size+1:=by simp
 have j:=ucW (w.alloc (.cells #[c,a] 28)) (t:=28);rw[l]at j;have d:Keep (λ_=>False) w ((w.alloc (.cells #[c,a] 28)).alloc (.cells #[.slice none 0 0,.slice none 0 0] 28)):=(Keep.alloc _ _ _).trans (Keep.alloc _ _ _);exact⟨_,n,j,yY (by omega),p.keep d (λ_ e=>e.elim),d.mono (λ_ e=>e.elim),λb o q=>by rw[uR (by simp;omega)];exact(uR o).trans q,Nat.le_refl _⟩
theorem ubn args w:(callFunc 42 args).run Tryz.prog w=.ok (.enter 42 args) w:=by
 simp[callFunc,Tryz.func42,Tryz.f42,go_sem]
theorem ufB(args:Array Value)(w:World):(callFunc 88 args).run Tryz.prog w=.ok (.enter 88 args) w:=by
 simp[callFunc,Tryz.func88,Tryz.f88,go_sem]
theorem uo1 args w:(callFunc 43 args).run Tryz.prog w=.ok (.enter 43 args) w:=by
 simp[callFunc,Tryz.func43,Tryz.f43,go_sem]
theorem uo2 args w:(callFunc 44 args).run Tryz.prog w=.ok (.enter 44 args) w:=by
 simp[callFunc,Tryz.func44,Tryz.f44,go_sem]
theorem ujF(args:Array Value)(w:World):(callFunc 11 args).run Tryz.prog w=.ok (.enter 11 args) w:=by
 simp[callFunc,Tryz.func11,Tryz.f11,go_sem]
end
end Go.Proofs.YtimfigongapdnaaGreat
