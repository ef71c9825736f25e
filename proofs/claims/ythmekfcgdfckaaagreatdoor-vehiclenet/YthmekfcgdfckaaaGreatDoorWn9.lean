/- The contracts of unit.within, Check, CheckMessage, is, stateOf, other, done. Gateways in memory: 'IsBools', 'BV', 'gtv', 'GIn'; a gateway's state ('gsv'). The contracts of trust.within, slices.Index and Contains at ints and at signatures, trust.CheckSigned, CheckTrust. The contracts of gate.within, decided, Check. The contract of gate.turned. -/
import Derived.Test.YthmekfcgdfckaaaGreatDoorWn8
import Derived.Laws.StructEq
set_option maxRecDepth 1000000
set_option maxHeartbeats 0
namespace Go.Proofs.YthmekfcgdfckaaaGreatDoor
variable {w w' :World} {a:Option Addr} {n:Nat} {ws:List Int} {u:Un} {bs:List Bool} {g:Gt} {k:Int} {s:Gs}
section
open Go.RowKit
structure BW (w:World) (a:Option Addr) (n c:Nat) (ws:List Int):Prop where
  at_:zag w a ws
  len:ws.length=n
  cap:n≤c
  max:n≤maxLen
theorem BW.below {c:Nat} (h:BW w a n c ws) (hb:Below w.heap.size w w'):BW w' a n c ws:=⟨h.at_.below hb,h.len,h.cap,h.max⟩
theorem BW.bi {c:Nat} (h:BW w a n c ws):BI w a n ws:=⟨h.at_,h.len,h.max⟩
theorem BW.turns {B:Nat} {c:Nat} (h:BW w a n c ws) (hg:w.grownBy w' (some B)) (ho:Off B a):BW w' a n c ws:=⟨zax h.at_ hg ho,h.len,h.cap,h.max⟩
theorem inB_t {n a b:Int} (h0:a≤n) (h1:n≤b):inB n a b=true:=by unfold inB;simp;omega
theorem inB_lo {n a b:Int} (h0: ¬a≤n):inB n a b=false:=by unfold inB;simp;omega
theorem inB_hi {n a b:Int} (h0: ¬n≤b):inB n a b=false:=by unfold inB;simp;omega
theorem zbb (n a b:Int) (w:World):Calls Tryz.prog 176 #[.int .i64 n,.int .i64 a,.int .i64 b] w fun e w' =>e=.returned (.bool (inB n a b))∧w' =w:=by
  by_cases h0:a≤n
  {
  by_cases h1:n≤b
  {
  have hd:decide (n≤b)=true:=by simp;omega
  go_enter Tryz.func176,Tryz.ntmps176;go_wp2;go_ret;exact⟨zan (inB_t h0 h1).symm,rfl⟩
  }
  {
  have hd:decide (n≤b)=false:=by simp;omega
  go_enter Tryz.func176,Tryz.ntmps176;go_wp2;go_ret;exact⟨zan (inB_hi (by omega)).symm,rfl⟩
  }
  }
  {
  go_enter Tryz.func176,Tryz.ntmps176;go_wp2;go_ret;exact⟨zan (inB_lo (by omega)).symm,rfl⟩
  }
theorem unE_1 (h:lchk u.ws u.fu≠0):unE u=lchk u.ws u.fu:=by unfold unE;rw [if_pos h]
theorem unE_2 (h:lchk u.ws u.fu=0) (h2:u.ws.length≠192):unE u=4:=by unfold unE;rw [if_neg (by simpa using h),if_pos h2]
theorem unE_3 (h:lchk u.ws u.fu=0) (h2:u.ws.length=192) (h3: (inB u.n 0 8&&inB u.hv 0 40)=false):unE u=3:=by unfold unE;rw [if_neg (by simpa using h),if_neg (by simpa using h2),h3];rfl
theorem unE_0 (h:lchk u.ws u.fu=0) (h2:u.ws.length=192) (h3: (inB u.n 0 8&&inB u.hv 0 40)=true):unE u=0:=by unfold unE;rw [if_neg (by simpa using h),if_neg (by simpa using h2),h3];rfl
theorem zjw (h:unE u=0):lchk u.ws u.fu=0∧u.ws.length=192∧(0≤u.n∧u.n≤8)∧0≤u.hv∧u.hv≤40:=by
  unfold unE at h
  split at h
  { rename_i h1;exact absurd h h1 }
  {
  rename_i h1
  split at h
  { cases h }
  {
  rename_i h2
  split at h
  {
  rename_i h3
  rw [Bool.and_eq_true] at h3;unfold inB at h3
  simp at h3 h1 h2
  exact⟨h1,h2,h3.1,h3.2⟩
  }
  {
  cases h
  }
  }
  }
theorem zcz (u:Un) (a:Option Addr) (n c:Nat) (w:World) (h:BW w a n c u.ws):
    Calls Tryz.prog 110 #[unv u a n c] w fun e w' =>e=.returned (.int .i64 (unE u))∧Below w.heap.size w w' :=by
  have hw0:Below w.heap.size w (w.alloc (.cells (aU a n c u) 82)):=bA1;have b0:=hide (heap_alloc_last w (.cells (aU a n c u) 82));have HL:=hide (fun W (hW:Below w.heap.size w W)=>zd5 a n c u.ws u.fu W (h.below hW).at_ h.len h.max);have L:=hide h.len;have hm:=h.max;unfold maxLen at hm;unfold unv;clear h;have x0:=zaa b0.out 0 _ rfl;have x1:=zaa b0.out 1 _ rfl;go_enter Tryz.func110,Tryz.ntmps110;go_wp2_with fail;generalize w.alloc (.cells (aU a n c u) 82)=W at *;refine(zae HL _ hw0).mono ?_;rintro e w1 ⟨rfl,hb⟩;replace b0:=hide (zab b0.out hb);replace hw0:=bT hw0 hb;clear hb x0 x1 HL
  by_cases z1:lchk u.ws u.fu=0
  rotate_left
  {
  have HE:=hide (unE_1 z1);have hq: (lchk u.ws u.fu !=0)=true:=by simpa using z1
  clear z1;generalize lchk u.ws u.fu=q at *;go_wp2_with fail;go_ret;exact⟨zap HE.out.symm,hw0⟩
  }
  have E2:=hide (unE_2 z1);have E3:=hide (unE_3 z1);have E0:=hide (unE_0 z1);rw [z1];clear z1;have x0:=zaa b0.out 0 _ rfl;have x3:=zaa b0.out 3 _ rfl;have x4:=zaa b0.out 4 _ rfl
  by_cases z2:n=192
  rotate_left
  {
  have HE:=hide (E2.out (by rw [L.out];exact z2));have hq: ((n:Int) !=192)=true:=by simp;omega
  clear z2;go_wp2_with fail;go_ret;exact⟨zap HE.out.symm,hw0⟩
  }
  have hq: ((n:Int) !=192)=false:=by simp;omega
  have hl:=L.out.trans z2;replace E3:=hide (E3.out hl);replace E0:=hide (E0.out hl);clear z2 hl;cases g1:inB u.n 0 8
  {
  have HE:=hide (E3.out (by rw [g1];rfl))
  go_wp2_with (go_at_call 176;refine(zbb _ _ _ _).mono ?_;rintro e w' ⟨rfl,rfl⟩)
  go_ret;exact⟨zap HE.out.symm,hw0⟩
  }
  {
  cases g2:inB u.hv 0 40
  {
  have HE:=hide (E3.out (by rw [g1,g2];rfl))
  go_wp2_with (go_at_call 176;refine(zbb _ _ _ _).mono ?_;rintro e w' ⟨rfl,rfl⟩)
  go_ret;exact⟨zap HE.out.symm,hw0⟩
  }
  {
  have HE:=hide (E0.out (by rw [g1,g2];rfl))
  go_wp2_with (go_at_call 176;refine(zbb _ _ _ _).mono ?_;rintro e w' ⟨rfl,rfl⟩)
  go_ret;exact⟨zap HE.out.symm,hw0⟩
  }
  }
theorem msE_bad {m:Ms} (h:msB m=false):msE m=3:=by unfold msE;rw [h];rfl
theorem msE_ok {m:Ms} (h:msB m=true):msE m=0:=by unfold msE;rw [h];rfl
theorem ze9 (m:Ms) (a:Option Addr) (n c:Nat) (w:World) (h:BI w a n m.ws):
    Calls Tryz.prog 148 #[msv m a n c] w fun e w' =>e=.returned (.int .i64 (msE m))∧Below w.heap.size w w' :=by
  have hw0:Below w.heap.size w (w.alloc (.cells (aM m a n c) 99)):=bA1;have HA:=hide (zc8 a n c m.ws _ (h.below hw0).at_ h.len h.max);have L:=hide h.len;have hm:=h.max;unfold maxLen at hm;unfold msv;clear h;have hB:Hid (∀b,msB m=b→b=false→msE m=3):=fun b h1 h2=>msE_bad (h1.trans h2)
  unfold msB at hB;cases g1:inB m.k 1 7
  {
  have HE:=hide (hB.out _ rfl (by rw [g1];rfl));go_enter Tryz.func148,Tryz.ntmps148
  go_wp2_with (go_at_call 176;refine(zbb _ _ _ _).mono ?_;rintro e w' ⟨rfl,rfl⟩)
  go_ret;exact⟨zap HE.out.symm,hw0⟩
  }
  cases g2:inB m.u 0 3
  {
  have HE:=hide (hB.out _ rfl (by rw [g1,g2];rfl));go_enter Tryz.func148,Tryz.ntmps148
  go_wp2_with (go_at_call 176;refine(zbb _ _ _ _).mono ?_;rintro e w' ⟨rfl,rfl⟩)
  go_ret;exact⟨zap HE.out.symm,hw0⟩
  }
  cases g3:inB m.n 1 8
  {
  have HE:=hide (hB.out _ rfl (by rw [g1,g2,g3];rfl));go_enter Tryz.func148,Tryz.ntmps148
  go_wp2_with (go_at_call 176;refine(zbb _ _ _ _).mono ?_;rintro e w' ⟨rfl,rfl⟩)
  go_ret;exact⟨zap HE.out.symm,hw0⟩
  }
  cases g4:inB m.at' 0 40
  {
  have HE:=hide (hB.out _ rfl (by rw [g1,g2,g3,g4];rfl));go_enter Tryz.func148,Tryz.ntmps148
  go_wp2_with (go_at_call 176;refine(zbb _ _ _ _).mono ?_;rintro e w' ⟨rfl,rfl⟩)
  go_ret;exact⟨zap HE.out.symm,hw0⟩
  }
  cases g5:inB m.im 0 60
  {
  have HE:=hide (hB.out _ rfl (by rw [g1,g2,g3,g4,g5];rfl));go_enter Tryz.func148,Tryz.ntmps148
  go_wp2_with (go_at_call 176;refine(zbb _ _ _ _).mono ?_;rintro e w' ⟨rfl,rfl⟩)
  go_ret;exact⟨zap HE.out.symm,hw0⟩
  }
  by_cases g6:n≤8
  rotate_left
  {
  have HE:=hide (hB.out _ rfl (by rw [g1,g2,g3,g4,g5,L.out];simp [g6]));have d6:decide ((n:Int)≤8)=false:=by simp;omega
  clear g6;go_enter Tryz.func148,Tryz.ntmps148
  go_wp2_with (go_at_call 176;refine(zbb _ _ _ _).mono ?_;rintro e w' ⟨rfl,rfl⟩)
  go_ret;exact⟨zap HE.out.symm,hw0⟩
  }
  have d6:decide ((n:Int)≤8)=true:=by simp;omega
  cases g7:okL m.ws
  {
  have HE:=hide (hB.out _ rfl (by rw [g1,g2,g3,g4,g5,g7];simp));rw [g7] at HA;clear g6;go_enter Tryz.func148,Tryz.ntmps148
  go_wp2_with (first| (go_at_call 176;refine(zbb _ _ _ _).mono ?_;rintro e w' ⟨rfl,rfl⟩)| (go_at_call 217;refine(zae HA).mono ?_;rintro e w' ⟨rfl,rfl⟩))
  go_ret;exact⟨zap HE.out.symm,hw0⟩
  }
  {
  have HE:=hide (msE_ok (m:=m) (by unfold msB;rw [g1,g2,g3,g4,g5,g7,L.out];simp [g6]));rw [g7] at HA;clear g6;go_enter Tryz.func148,Tryz.ntmps148
  go_wp2_with (first| (go_at_call 176;refine(zbb _ _ _ _).mono ?_;rintro e w' ⟨rfl,rfl⟩)| (go_at_call 217;refine(zae HA).mono ?_;rintro e w' ⟨rfl,rfl⟩))
  go_ret;exact⟨zap HE.out.symm,hw0⟩
  }
theorem zqu (a:Option Addr) (n c:Nat) (r:List Int) (k:Int) (l:Nat) (w:World) (h:zag w a r) (hn:r.length=n) (hm:n≤maxLen) (h0:0<l) (hl:l≤10):
    Calls Tryz.prog 177 #[.slice a n c,.int .i64 k,.int .i64 l] w fun e w' =>e=.returned (.bool (isR r k l))∧w' =w:=by
  unfold maxLen at hm
  by_cases h1:n=l
  rotate_left
  {
  have HE:=hide (show isR r k l=false by unfold isR;rw [hn];simp [h1]);have d1: ((n:Int)==(l:Int))=false:=by simp;omega
  clear hn h1;go_enter Tryz.func177,Tryz.ntmps177;go_wp2;go_ret;exact⟨zan HE.out.symm,rfl⟩
  }
  {
  have d1: ((n:Int)==(l:Int))=true:=by simp;omega
  rcases h with e| ⟨b,off,rfl,hc⟩
  { rw [e] at hn;simp at hn;omega }
  have e0:=hc 0 (by omega);rw [Nat.add_zero] at e0;have hlt: (0:Int)< (n:Int):=by omega
  by_cases h2:r.getD 0 0=k
  {
  have HE:=hide (show isR r k l=true by unfold isR;rw [hn];simp only [h1,h2];simp);have d2: (r.getD 0 0==k)=true:=by simpa using h2
  clear hn h1 hc h2;generalize r.getD 0 0=r0 at *;go_enter Tryz.func177,Tryz.ntmps177;go_wp2;go_ret;exact⟨zan HE.out.symm,rfl⟩
  }
  {
  have HE:=hide (show isR r k l=false by unfold isR;simp only [decide_eq_false h2,Bool.and_false]);have d2: (r.getD 0 0==k)=false:=by simpa using h2
  clear hn h1 hc h2;generalize r.getD 0 0=r0 at *;go_enter Tryz.func177,Tryz.ntmps177;go_wp2;go_ret;exact⟨zan HE.out.symm,rfl⟩
  }
  }
theorem zcs (s:Us) (w:World) (h0:0≤s.slot) (h1:s.slot≤1):Calls Tryz.prog 311 #[.agg #[.int .i64 s.slot,.int .i64 s.by',.int .i64 s.rdy]] w fun e w' =>e=.returned (.int .i64 (oth s))∧Below w.heap.size w w' :=by
  have hw0:Below w.heap.size w (w.alloc (.cells #[.int .i64 s.slot,.int .i64 s.by',.int .i64 s.rdy] 84)):=bA1;go_enter Tryz.func311,Tryz.ntmps311;go_wp2;go_ret;exact⟨rfl,hw0⟩
def OneM (w:World) (m:Ms) (e:Ending) (w' :World):Prop:=(∃b,e=.returned (.slice (some ⟨b,0,none⟩) 1 1)∧za9 w' (some ⟨b,0,none⟩) [m]∧w.heap.size≤b)∧Below w.heap.size w w'
theorem zdy (m:Ms) (a:Option Addr) (n c:Nat) (w:World):Calls Tryz.prog 313 #[msv m a n c] w (OneM w (doneM m)):=by
  have hw0:Below w.heap.size w (w.alloc (.cells (aM m a n c) 99)):=bA1;unfold msv;go_enter Tryz.func313,Tryz.ntmps313;go_wp2;go_ret;exact⟨⟨_,rfl,zg1 (m:=doneM m) rfl (zau _ _ _),by simp⟩,hw0.alloc hw0.size _⟩
end
section
open Go.RowKit
def zbz (w:World) (a:Option Addr) (bs:List Bool):Prop:=
  bs= []∨∃b off,a=some ⟨b,off,none⟩∧∀i,i<bs.length→w.cell? ⟨b,off+i,none⟩=some (.bool (bs.getD i false))
theorem zbz.below (h:zbz w a bs) (hb:Below w.heap.size w w'):zbz w' a bs:=by
  rcases h with h| ⟨b,off,rfl,hc⟩
  { exact .inl h }
  { exact .inr ⟨b,off,rfl,fun i hi=>by rw [hb.cell (zah (hc i hi))];exact hc i hi⟩ }
structure BV (w:World) (a:Option Addr) (n c:Nat) (bs:List Bool):Prop where
  at_:zbz w a bs
  len:bs.length=n
  cap:n≤c
  max:n≤maxLen
theorem BV.below {c:Nat} (h:BV w a n c bs) (hb:Below w.heap.size w w'):BV w' a n c bs:=⟨h.at_.below hb,h.len,h.cap,h.max⟩
structure GA where
  a:Option Addr
  n:Nat
  c:Nat
  ak:Option Addr
  nk:Nat
  ck:Nat
  av:Option Addr
  nv:Nat
  cv:Nat
  ad:Option Addr
  nd:Nat
  cd:Nat
def gtC (g:Gt) (m:GA):Array Value:=#[.slice m.a m.n m.c,.int .i64 g.fu,.bool g.up,.int .i64 g.t.r.v,.slice m.ak m.nk m.ck,.int .i64 g.t.r.t,.int .i64 g.t.ver,.slice m.av m.nv m.cv,.slice m.ad m.nd m.cd]
def gtv (g:Gt) (m:GA):Value:=.agg #[.slice m.a m.n m.c,.int .i64 g.fu,.bool g.up,.int .i64 g.t.r.v,.slice m.ak m.nk m.ck,.int .i64 g.t.r.t,.int .i64 g.t.ver,.slice m.av m.nv m.cv,.slice m.ad m.nd m.cd]
def gtO (g:Gt) (m:GA):Obj:=.cells #[.slice m.a m.n m.c,.int .i64 g.fu,.bool g.up,.int .i64 g.t.r.v,.slice m.ak m.nk m.ck,.int .i64 g.t.r.t,.int .i64 g.t.ver,.slice m.av m.nv m.cv,.slice m.ad m.nd m.cd] 35 (0,0)
theorem BI.turns {B:Nat} {xs:List Int} (h:BI w a n xs) (hg:w.grownBy w' (some B)) (ho:Off B a):BI w' a n xs:=⟨zax h.at_ hg ho,h.len,h.max⟩
structure GIn (w:World) (m:GA) (g:Gt):Prop where
  ws:BW w m.a m.n m.c g.ws
  ks:BI w m.ak m.nk g.t.r.ks
  vo:BV w m.av m.nv m.cv g.vo
  di:BV w m.ad m.nd m.cd g.di
theorem GIn.below {m:GA} (h:GIn w m g) (hb:Below w.heap.size w w'):GIn w' m g:=⟨h.ws.below hb,h.ks.below hb,h.vo.below hb,h.di.below hb⟩
def gsv (s:Gs):Value:=.agg #[.int .i64 s.n,.int .i64 s.v,.bool s.co,.bool s.ab,.bool s.en]
def gsO (s:Gs):Obj:=.cells #[.int .i64 s.n,.int .i64 s.v,.bool s.co,.bool s.ab,.bool s.en] 72 (0,0)
theorem gtE_1 (h:lchk g.ws g.fu≠0):gtE g=lchk g.ws g.fu:=by unfold gtE;rw [if_pos h]
theorem gtE_2 (h:lchk g.ws g.fu=0) (h2:gtB g=false):gtE g=4:=by unfold gtE;rw [if_neg (by simpa using h),if_neg (by rw [h2];decide)]
theorem gtE_3 (h:lchk g.ws g.fu=0) (h2:gtB g=true):gtE g=trE g.t:=by unfold gtE;rw [if_neg (by simpa using h),if_pos h2]
theorem zen (h:gtE g=0):lchk g.ws g.fu=0∧(1≤g.vo.length∧g.vo.length≤4)∧g.di.length=g.vo.length∧trE g.t=0:=by
  rcases Decidable.em (lchk g.ws g.fu=0) with h1|h1
  {
  cases h2:gtB g
  { rw [gtE_2 h1 h2] at h;cases h }
  {
  rw [gtE_3 h1 h2] at h;unfold gtB inB at h2
  simp at h2
  exact⟨h1,⟨by omega,by omega⟩,h2.2,h⟩
  }
  }
  {
  rw [gtE_1 h1] at h;exact absurd h h1
  }
abbrev aG (m:GA) (g:Gt):Array Value:=#[.slice m.a m.n m.c,.int .i64 g.fu,.bool g.up,.int .i64 g.t.r.v,.slice m.ak m.nk m.ck,.int .i64 g.t.r.t,.int .i64 g.t.ver,.slice m.av m.nv m.cv,.slice m.ad m.nd m.cd]
abbrev aS (s:Gs):Array Value:=#[.int .i64 s.n,.int .i64 s.v,.bool s.co,.bool s.ab,.bool s.en]
end
section
open Go.RowKit
theorem zdr (n a b:Int) (w:World):Calls Tryz.prog 134 #[.int .i64 n,.int .i64 a,.int .i64 b] w fun e w' =>e=.returned (.bool (inR n a b))∧w' =w:=by
  by_cases h0:a≤n
  {
  by_cases h1:n≤b
  {
  have hd:decide (n≤b)=true:=by simp;omega
  go_enter Tryz.func134,Tryz.ntmps134;go_wp2;go_ret;exact⟨zan (inR_t h0 h1).symm,rfl⟩
  }
  {
  have hd:decide (n≤b)=false:=by simp;omega
  go_enter Tryz.func134,Tryz.ntmps134;go_wp2;go_ret;exact⟨zan (inR_hi (by omega)).symm,rfl⟩
  }
  }
  {
  go_enter Tryz.func134,Tryz.ntmps134;go_wp2;go_ret;exact⟨zan (inR_lo (by omega)).symm,rfl⟩
  }
theorem has_hit {α:Type} [DecidableEq α] {xs:List α} {x:α} {k:Nat} (hk:k<xs.length) (h:x=xs[k]):has xs x=true:=by
  unfold has;rw [h]
  simp
theorem has_not {α:Type} [DecidableEq α] {xs:List α} {x:α} (h:x∉xs):has xs x=false:=by
  unfold has
  simp [h]
theorem znw {α:Type} {xs:List α} {x:α} {k:Nat} (hk:k<xs.length) (h:x∉xs.take k) (hne: ¬x=xs[k]):x∉xs.take (k+1):=by
  rw [List.take_succ_eq_append_getElem hk];simp only [List.mem_append,List.mem_singleton,not_or];exact⟨h,hne⟩
theorem zp3 (a:Option Addr) (n c:Nat) (xs:List Int) (x:Int) (w:World) (h:BI w a n xs):
    Calls Tryz.prog 113 #[.slice a n c,.int .i64 x] w fun e w' =>(∃q:Int,e=.returned (.int .i64 q)∧decide (0≤q)=has xs x)∧w' =w:=by
  obtain ⟨h,hn,hm⟩:=h;unfold maxLen at hm;have HN:Hid (xs.length=n):=hn;go_enter Tryz.func113,Tryz.ntmps113;go_wp2
  go_loop [8] (fun i=>∃k:Nat,k≤n∧i=.int .i64 k∧Hid (x∉xs.take k)) (fun i=>n - (intOf i).toNat)
  case atStart=>exact⟨0,Nat.zero_le _,rfl,by show _∉_;simp⟩
  case round=>
    obtain ⟨k,hk,rfl,ht⟩:=hrel
    by_cases hlt:k<n
    {
    rcases h with rfl| ⟨b0,o0,rfl,hc0⟩
    { simp at hn;omega }
    have hkx:k<xs.length:=by omega
    have e0:=hc0 k hkx;rw [show xs.getD k 0=xs[k] by simp [hkx]] at e0;clear hn hc0
    by_cases he:x=xs[k]
    {
    have hb: (x==xs[k])=true:=by simpa using he
    have HE:=hide (has_hit hkx he);clear he;generalize xs[k]=y at *;go_wp2;go_ret;exact⟨⟨_,rfl,by rw [HE.out];simp⟩,rfl⟩
    }
    {
    have hb: (x==xs[k])=false:=by simpa using he
    have HE:=hide (znw hkx ht.out he);clear he;generalize xs[k]=y at *;go_wp2
    go_round
    case rel=>exact⟨k+1,by omega,by go_num,HE.out⟩
    case measure=>simp [intOf];omega
    }
    }
    {
    go_wp2;go_ret;have hx:=ht.out;rw [List.take_of_length_le (by omega)] at hx;exact⟨⟨-1,rfl,by rw [has_not hx];rfl⟩,rfl⟩
    }
theorem zmr (a:Option Addr) (n c:Nat) (xs:List Int) (x:Int) (w:World) (h:BI w a n xs):
    Calls Tryz.prog 31 #[.slice a n c,.int .i64 x] w fun e w' =>e=.returned (.bool (has xs x))∧w' =w:=by
  have hc:=hide (zp3 a n c xs x w h);clear h;generalize has xs x=r at *;go_enter Tryz.func31,Tryz.ntmps31;go_wp2_with fail;refine(zae hc).mono ?_;rintro e w' ⟨⟨q,rfl,hq⟩,rfl⟩;go_wp2;go_ret;exact⟨rfl,rfl⟩
theorem sig_guard:Tryz.prog.eqGuardType Tryz.prog.depth 111=false:=by kernel_rfl
theorem zrn (a:Option Addr) (n c:Nat) (l:List S2) (s:S2) (w:World) (h:BG w a n l):
    Calls Tryz.prog 327 #[.slice a n c,sv s] w fun e w' =>(∃q:Int,e=.returned (.int .i64 q)∧decide (0≤q)=has l s)∧Below w.heap.size w w' :=by
  obtain ⟨h,hn,hm⟩:=h;unfold maxLen at hm;have HN:=hide hn;have hg:=sig_guard;have hw0:Below w.heap.size w (w.alloc (.cells #[.int .i64 s.1,.int .i64 s.2] 111)):=bA1;have b0:=heap_alloc_last w (.cells #[.int .i64 s.1,.int .i64 s.2] 111);have y0:=zaa b0 0 _ rfl;have y1:=zaa b0 1 _ rfl;have i0:=h.below hw0;unfold sv;clear hn b0 h;go_enter Tryz.func327,Tryz.ntmps327;go_wp2;generalize w.alloc (.cells #[.int .i64 s.1,.int .i64 s.2] 111)=W at *
  go_loopw [8] (fun i wr=>∃k:Nat,k≤n∧i=.int .i64 k∧Hid (s∉l.take k)∧∃m,wr=W.drewN m) (fun i _=>n - (intOf i).toNat)
  case atStart=>exact⟨0,Nat.zero_le _,rfl,by show _∉_;simp,0,rfl⟩
  case round=>
    obtain ⟨k,hk,rfl,ht,m,rfl⟩:=hrel
    by_cases hlt:k<n
    {
    rcases i0 with rfl| ⟨bb,oo,rfl,hc0⟩
    {
    have:=HN.out
    simp at this
    omega
    }
    have hkx:k<l.length:=by rw [HN.out];exact hlt
    obtain ⟨p0,p1⟩:=hc0 k l[k] (List.getElem?_eq_getElem hkx);clear hc0
    by_cases he:s=l[k]
    {
    have HE:=hide (has_hit hkx he);rw [←he] at p0 p1;clear he;go_wp2;go_quiet (fail);go_wp2;go_ret;exact⟨⟨_,rfl,by rw [HE.out];simp⟩,below_drewN (below_drewN hw0 _) _⟩
    }
    {
    have HE:=hide (znw hkx ht.out he);generalize l[k]=y at *;obtain ⟨s0,s1⟩:=s;obtain ⟨z0,z1⟩:=y;simp only at p0 p1 y0 y1
    by_cases d0:s0=z0
    {
    have d1: ¬s1=z1:=fun e=>he (by rw [d0,e])
    subst d0;clear he;go_wp2;go_quiet (fail);go_wp2
    go_roundw
    case rel=>exact⟨k+1,by omega,by go_num,HE.out,m+nq,rfl⟩
    case measure=>simp [intOf];omega
    }
    {
    clear he;go_wp2;go_quiet (fail);go_wp2
    go_roundw
    case rel=>exact⟨k+1,by omega,by go_num,HE.out,m+nq,rfl⟩
    case measure=>simp [intOf];omega
    }
    }
    }
    {
    go_wp2;go_ret;have hx:=ht.out;rw [List.take_of_length_le (by rw [HN.out];omega)] at hx;exact⟨⟨-1,rfl,by rw [has_not hx];rfl⟩,below_drewN hw0 _⟩
    }
theorem zm1 (a:Option Addr) (n c:Nat) (l:List S2) (s:S2) (w:World) (h:BG w a n l):
    Calls Tryz.prog 321 #[.slice a n c,sv s] w fun e w' =>e=.returned (.bool (has l s))∧Below w.heap.size w w' :=by
  have hc:=hide (fun W hW=>zrn a n c l s W hW);have hw0:Below w.heap.size w (w.alloc (.cells #[.int .i64 s.1,.int .i64 s.2] 111)):=bA1;have i0:=h.below hw0;clear h;generalize has l s=r at *;unfold sv at hc⊢;go_enter Tryz.func321,Tryz.ntmps321;go_wp2_with fail;generalize w.alloc (.cells #[.int .i64 s.1,.int .i64 s.2] 111)=W at *;refine(zae hc _ i0).mono ?_;rintro e w' ⟨⟨q,rfl,hq⟩,hb⟩;go_wp2;go_ret;exact⟨rfl,(bT hw0 hb)⟩
theorem zd3 (a:Option Addr) (n c:Nat) (l:List S2) (w:World) (h:BG w a n l):
    Calls Tryz.prog 39 #[.slice a n c] w fun e w' =>e=.returned (.int .i64 (sigE l))∧Below w.heap.size w w' :=by
  obtain ⟨h,hn,hm⟩:=h;unfold maxLen at hm;have HN:=hide hn
  by_cases h1:360<n
  {
  have HE:=hide (sigE_many (l:=l) (by omega));clear hn;go_enter Tryz.func39,Tryz.ntmps39;go_wp2_with fail;go_ret;exact⟨zap HE.out.symm,Below.refl _ _⟩
  }
  {
  have hle:=hide (show l.length≤360 by omega);clear hn;go_enter Tryz.func39,Tryz.ntmps39;go_wp2_with fail
  go_loopw [10] (fun i wr=>∃k:Nat,k≤n∧i=.int .i64 k∧Below w.heap.size w wr∧Hid ((l.take k).all sOK=true)) (fun i _=>n - (intOf i).toNat)
  case atStart=>exact⟨0,Nat.zero_le _,rfl,Below.refl _ _,by show _=_;simp⟩
  case round=>
    obtain ⟨wq,rfl⟩: ∃wq:World,wq=wr:=⟨_,rfl⟩;obtain ⟨k,hk,rfl,hw,ht⟩:=hrel
    by_cases hlt:k<n
    {
    have i1:=h.below hw
    rcases i1 with rfl| ⟨b0,o0,rfl,hc0⟩
    {
    have:=HN.out
    simp at this
    omega
    }
    have hkx:k<l.length:=by rw [HN.out];exact hlt
    obtain ⟨e0,e1⟩:=hc0 k l[k] (List.getElem?_eq_getElem hkx);clear hc0;have hw1:=hw.alloc hw.size (.cells #[.int .i64 l[k].1,.int .i64 l[k].2] 111);have HB:=hide (sigE_bad hle.out hkx);have HX:=hide (sOK_step hkx ht.out);generalize l[k]=s at *;cases g1:inR s.1 1 50
    {
    have HV:=hide (HB.out (by unfold sOK;rw [g1];rfl))
    go_wp2_with (go_at_call 134;refine(zdr _ _ _ _).mono ?_;rintro e w' ⟨rfl,rfl⟩)
    go_ret;exact⟨zap HV.out.symm,hw1⟩
    }
    {
    cases g2:inR s.2 1 60
    {
    have HV:=hide (HB.out (by unfold sOK;rw [g1,g2];rfl))
    go_wp2_with (go_at_call 134;refine(zdr _ _ _ _).mono ?_;rintro e w' ⟨rfl,rfl⟩)
    go_ret;exact⟨zap HV.out.symm,hw1⟩
    }
    {
    have HV:=hide (HX.out (by unfold sOK;rw [g1,g2];rfl))
    go_wp2_with (go_at_call 134;refine(zdr _ _ _ _).mono ?_;rintro e w' ⟨rfl,rfl⟩)
    go_roundw
    case rel=>exact⟨k+1,by omega,by go_num,hw1,HV.out⟩
    case measure=>simp [intOf];omega
    }
    }
    }
    {
    go_wp2_with fail;go_ret;have hx:=ht.out;rw [List.take_of_length_le (by rw [HN.out];omega)] at hx;exact⟨zap (sigE_ok hle.out hx).symm,hw⟩
    }
  }
theorem zla {t:Tr} (h:inR t.ver 0 1000=false):trE t=3:=by unfold trE;rw [h];rfl
theorem zkd {t:Tr} (h:inR t.ver 0 1000=true):trE t=t.r.e:=by unfold trE;rw [h];rfl
theorem zee (t:Tr) (a:Option Addr) (n c:Nat) (w:World) (h:BI w a n t.r.ks):
    Calls Tryz.prog 146 #[trv t.r.v a n c t.r.t t.ver] w fun e w' =>e=.returned (.int .i64 (trE t))∧Below w.heap.size w w' :=by
  have hw0:Below w.heap.size w (w.alloc (.cells #[.int .i64 t.r.v,.slice a n c,.int .i64 t.r.t,.int .i64 t.ver] 32)):=bA1;have i0:=h.below hw0;have HK:=hide (fun W (hW:BI W a n t.r.ks)=>zeu t.r.v a n c t.r.t t.r.ks W hW.at_ hW.len hW.max);unfold rv at HK;unfold trv;cases h1:inR t.ver 0 1000
  {
  have HE:=hide (zla h1);go_enter Tryz.func146,Tryz.ntmps146
  go_wp2_with (go_at_call 134;refine(zdr _ _ _ _).mono ?_;rintro e w' ⟨rfl,rfl⟩)
  go_ret;exact⟨zap HE.out.symm,hw0⟩
  }
  {
  have HE:=hide (zkd h1);go_enter Tryz.func146,Tryz.ntmps146
  go_wp2_with (first| (go_at_call 134;refine(zdr _ _ _ _).mono ?_;rintro e w' ⟨rfl,rfl⟩)| (go_at_call 216;refine(HK.out _ i0).mono ?_;rintro e w1 ⟨rfl,hb1⟩))
  go_ret;exact⟨zap HE.out.symm,(bT hw0 hb1)⟩
  }
end
section
open Go.RowKit
attribute [local go_sem ↓] Go.wp_at_zero Go.wp_at_succ
theorem zbc (n a b:Int) (w:World):Calls Tryz.prog 135 #[.int .i64 n,.int .i64 a,.int .i64 b] w fun e w' =>e=.returned (.bool (inB n a b))∧w' =w:=by
  by_cases h0:a≤n
  {
  by_cases h1:n≤b
  {
  go_enter Tryz.func135,Tryz.ntmps135;go_wp2;go_ret;exact⟨zan (inB_t h0 h1).symm,rfl⟩
  }
  {
  have hd:decide (n≤b)=false:=by simpa using h1
  go_enter Tryz.func135,Tryz.ntmps135;go_wp2;go_ret;exact⟨zan (inB_hi (by omega)).symm,rfl⟩
  }
  }
  {
  go_enter Tryz.func135,Tryz.ntmps135;go_wp2;go_ret;exact⟨zan (inB_lo (by omega)).symm,rfl⟩
  }
theorem zej (s:Gs) (w:World):Calls Tryz.prog 234 #[gsv s] w fun e w' =>e=.returned (.bool (decG s))∧Below w.heap.size w w' :=by
  unfold gsv decG;cases h:s.co
  {
  go_enter Tryz.func234,Tryz.ntmps234;go_wp2;go_ret;exact⟨zan (by simp),bA1⟩
  }
  {
  go_enter Tryz.func234,Tryz.ntmps234;go_wp2;go_ret;exact⟨zan (by simp),bA1⟩
  }
theorem zca (g:Gt) (m:GA) (w:World) (h:GIn w m g):
    Calls Tryz.prog 61 #[gtv g m] w fun e w' =>e=.returned (.int .i64 (gtE g))∧Below w.heap.size w w' :=by
  have hw0:Below w.heap.size w (w.alloc (.cells (gtC g m) 35)):=bA1;have b0:=hide (heap_alloc_last w (.cells (gtC g m) 35));have HL:=hide (fun W (hW:Below w.heap.size w W)=>zd5 m.a m.n m.c g.ws g.fu W (h.ws.below hW).at_ h.ws.len h.ws.max);have HT:=hide (fun W (hW:Below w.heap.size w W)=>zee g.t m.ak m.nk m.ck W (h.ks.below hW));unfold trv at HT;have Lv:=hide h.vo.len;have Ld:=hide h.di.len;have hv:=h.vo.max;have hd:=h.di.max;unfold maxLen at hv hd;unfold gtv;unfold gtC at hw0 b0;clear h;have x0:=zaa b0.out 0 _ rfl;have x1:=zaa b0.out 1 _ rfl;go_enter Tryz.func61,Tryz.ntmps61;go_wp2_with fail;generalize w.alloc (.cells (aG m g) 35)=W at *;refine(zae HL _ hw0).mono ?_;rintro e w1 ⟨rfl,hb⟩;replace b0:=hide (zab b0.out hb);replace hw0:=bT hw0 hb;clear hb x0 x1 HL
  by_cases z1:lchk g.ws g.fu=0
  rotate_left
  {
  have HE:=hide (gtE_1 z1);have hq: (lchk g.ws g.fu !=0)=true:=by simpa using z1
  clear z1;generalize lchk g.ws g.fu=q at *;go_wp2_with fail;go_ret;exact⟨zap HE.out.symm,hw0⟩
  }
  have E2:=hide (gtE_2 z1);have E3:=hide (gtE_3 z1);rw [z1];clear z1;have x3:=zaa b0.out 3 _ rfl;have x4:=zaa b0.out 4 _ rfl;have x5:=zaa b0.out 5 _ rfl;have x6:=zaa b0.out 6 _ rfl;have x7:=zaa b0.out 7 _ rfl;have x8:=zaa b0.out 8 _ rfl;cases g1:inB (m.nv:Int) 1 4
  {
  have HE:=hide (E2.out (by unfold gtB;rw [Lv.out,g1];rfl))
  go_wp2_with (go_at_call 135;refine(zbc _ _ _ _).mono ?_;rintro e w' ⟨rfl,rfl⟩)
  go_ret;exact⟨zap HE.out.symm,hw0⟩
  }
  {
  by_cases z2:m.nd=m.nv
  rotate_left
  {
  have HE:=hide (E2.out (by unfold gtB;rw [Lv.out,Ld.out,g1];simpa using z2));have hq: ((m.nd:Int) != (m.nv:Int))=true:=by simp;omega
  clear z2
  go_wp2_with (go_at_call 135;refine(zbc _ _ _ _).mono ?_;rintro e w' ⟨rfl,rfl⟩)
  go_ret;exact⟨zap HE.out.symm,hw0⟩
  }
  {
  have HE:=hide (E3.out (by unfold gtB;rw [Lv.out,Ld.out,g1];simpa using z2));have hq: ((m.nd:Int) != (m.nv:Int))=false:=by simp;omega
  clear z2
  go_wp2_with (first| (go_at_call 135;refine(zbc _ _ _ _).mono ?_;rintro e w' ⟨rfl,rfl⟩)| (go_at_call 146;refine(zae HT _ hw0).mono ?_;rintro e w2 ⟨rfl,hb2⟩;replace hw0:=(bT hw0 hb2)))
  go_ret;exact⟨zap HE.out.symm,hw0⟩
  }
  }
end
section
open Go.RowKit
attribute [local go_sem ↓] Go.wp_at_zero Go.wp_at_succ
theorem trnG_2 (h:k=2):trnG s k= ⟨s.n,s.v,!s.ab,s.ab,s.en⟩:=by unfold trnG;rw [if_pos h]
theorem trnG_3 (h:k=3):trnG s k= ⟨s.n,s.v,s.co,!s.co,s.en⟩:=by unfold trnG;rw [if_neg (by omega),if_pos h]
theorem trnG_4 (h:k=4):trnG s k= ⟨s.n,s.v,s.co,s.ab,decG s⟩:=by unfold trnG;rw [if_neg (by omega),if_neg (by omega),if_pos h]
theorem trnG_0 (h2:k≠2) (h3:k≠3) (h4:k≠4):trnG s k=s:=by unfold trnG;rw [if_neg h2,if_neg h3,if_neg h4]
theorem zp9 (s:Gs) (k:Int) (w:World):Calls Tryz.prog 172 #[gsv s,.int .i64 k] w fun e w' =>e=.returned (gsv (trnG s k))∧Below w.heap.size w w' :=by
  unfold gsv
  by_cases z2:k=2
  {
  have HE:=hide (trnG_2 (s:=s) z2);subst z2;go_enter Tryz.func172,Tryz.ntmps172;go_wp2_with fail;refine bodyPost_ret (v:=gsv ⟨s.n,s.v,!s.ab,s.ab,s.en⟩) (by simp [results,Tryz.results172,go_sem,gsv]) rfl ?_;rw [HE.out];exact⟨rfl,by(repeat(first|exact Below.refl _ _|refine Below.setCell ?_ (by simp) _|refine zaf ?_ _))⟩
  }
  by_cases z3:k=3
  {
  have HE:=hide (trnG_3 (s:=s) z3);subst z3;go_enter Tryz.func172,Tryz.ntmps172;go_wp2_with fail;refine bodyPost_ret (v:=gsv ⟨s.n,s.v,s.co,!s.co,s.en⟩) (by simp [results,Tryz.results172,go_sem,gsv]) rfl ?_;rw [HE.out];exact⟨rfl,by(repeat(first|exact Below.refl _ _|refine Below.setCell ?_ (by simp) _|refine zaf ?_ _))⟩
  }
  by_cases z4:k=4
  {
  have HE:=hide (trnG_4 (s:=s) z4);subst z4;have hw0:Below w.heap.size w ((w.alloc (.cells (aS s) 72)).alloc (.cells aX 72)):=bA2;have b0:Hid (((w.alloc (.cells (aS s) 72)).alloc (.cells aX 72)).heap[w.heap.size]?=some (.cells (aS s) 72 (0,0))):=zai (heap_alloc_last _ _) _;have b1:Hid (((w.alloc (.cells (aS s) 72)).alloc (.cells aX 72)).heap[w.heap.size+1]?=some (.cells aX 72 (0,0))):=zau _ _ _;have HD:=hide (zej s ((w.alloc (.cells (aS s) 72)).alloc (.cells aX 72)));unfold gsv at HD;go_enter Tryz.func172,Tryz.ntmps172;go_wp2_with fail;generalize ((w.alloc (.cells (aS s) 72)).alloc (.cells aX 72))=W at *;refine(zae HD).mono ?_;rintro e w1 ⟨rfl,hb⟩;replace b0:=hide (zab b0.out hb);replace b1:=hide (zab b1.out hb);replace hw0:=bT hw0 hb;obtain ⟨x0,x1,x2,x3,x4⟩:=cl5 b0.out;obtain ⟨y0,y1,y2,y3,y4⟩:=cl5 b1.out;obtain ⟨f0,f1,f2,f3,f4⟩:=fr5 b0.out;obtain ⟨g0,g1,g2,g3,g4⟩:=fr5 b1.out;clear hb HD;go_wp2_with fail;refine bodyPost_ret (v:=gsv ⟨s.n,s.v,s.co,s.ab,decG s⟩) (by simp [results,Tryz.results172,go_sem,gsv,y0,y1,y2,y3,y4]) rfl ?_;rw [HE.out];exact⟨rfl,(((((hw0.setCell (p:=⟨w.heap.size,4,none⟩) (Nat.le_refl _) _).setCell (p:=⟨w.heap.size+1,0,none⟩) (Nat.le_succ _) _).setCell (p:=⟨w.heap.size+1,1,none⟩) (Nat.le_succ _) _).setCell (p:=⟨w.heap.size+1,2,none⟩) (Nat.le_succ _) _).setCell (p:=⟨w.heap.size+1,3,none⟩) (Nat.le_succ _) _).setCell (p:=⟨w.heap.size+1,4,none⟩) (Nat.le_succ _) _⟩
  }
  {
  have HE:=hide (trnG_0 (s:=s) z2 z3 z4);have d2: (k==2)=false:=by simpa using z2
  have d3: (k==3)=false:=by simpa using z3
  have d4: (k==4)=false:=by simpa using z4
  clear z2 z3 z4;go_enter Tryz.func172,Tryz.ntmps172;go_wp2_with fail;refine bodyPost_ret (v:=gsv s) (by simp [results,Tryz.results172,go_sem,gsv]) rfl ?_;rw [HE.out];exact⟨rfl,by(repeat(first|exact Below.refl _ _|refine Below.setCell ?_ (by simp) _|refine zaf ?_ _))⟩
  }
end
end Go.Proofs.YthmekfcgdfckaaaGreatDoor
