/- Gateways in memory: 'IsBools', 'BV', 'gtv', 'GIn'; a gateway's state ('gsv'). The contracts of trust.within, slices.Index and Contains at ints and at signatures, trust.CheckSigned, CheckTrust. The contracts of gate.within, decided, Check. The contract of gate.turned. log.Records once more: where its records lie ('RecM'); the contract of unit.stateOf. -/
import Derived.Test.YthmekfcgdfckaaaGreatDoorWt8
import Derived.Test.YthmekfcgdfckaaaGreatDoorWt9
import Derived.Laws.StructEq
set_option maxRecDepth 1000000
set_option maxHeartbeats 0
namespace Go.Proofs.YthmekfcgdfckaaaGreatDoor
variable {w w' :World} {a:Option Addr} {bs:List Bool} {g:Gt} {k:Int} {s:Us} {rs:List (List Int)} {r:List Int}
section
open Go.RowKit
def zbz (w:World) (a:Option Addr) (bs:List Bool):Prop:=
  bs= []∨∃b off,a=some ⟨b,off,none⟩∧∀i,i<bs.length→w.cell? ⟨b,off+i,none⟩=some (.bool (bs.getD i false))
theorem zbz.below (h:zbz w a bs) (hb:Below w.heap.size w w'):zbz w' a bs:=by
  rcases h with h| ⟨b,off,rfl,hc⟩
  { exact .inl h }
  { exact .inr ⟨b,off,rfl,fun i hi=>by rw [hb.cell (zah (hc i hi))];exact hc i hi⟩ }
structure BV (w:World) (a:Option Addr) (n c:Nat) (bs:List Bool):Prop where
  at_:zbz w a bs
  len:bs.length=n
  cap:n≤c
  max:n≤maxLen
theorem BV.below {n c:Nat} (h:BV w a n c bs) (hb:Below w.heap.size w w'):BV w' a n c bs:=⟨h.at_.below hb,h.len,h.cap,h.max⟩
structure GA where
  a:Option Addr
  n:Nat
  c:Nat
  ak:Option Addr
  nk:Nat
  ck:Nat
  av:Option Addr
  nv:Nat
  cv:Nat
  ad:Option Addr
  nd:Nat
  cd:Nat
def gtC (g:Gt) (m:GA):Array Value:=#[.slice m.a m.n m.c,.int .i64 g.fu,.bool g.up,.int .i64 g.t.r.v,.slice m.ak m.nk m.ck,.int .i64 g.t.r.t,.int .i64 g.t.ver,.slice m.av m.nv m.cv,.slice m.ad m.nd m.cd]
def gtv (g:Gt) (m:GA):Value:=.agg #[.slice m.a m.n m.c,.int .i64 g.fu,.bool g.up,.int .i64 g.t.r.v,.slice m.ak m.nk m.ck,.int .i64 g.t.r.t,.int .i64 g.t.ver,.slice m.av m.nv m.cv,.slice m.ad m.nd m.cd]
def gtO (g:Gt) (m:GA):Obj:=.cells #[.slice m.a m.n m.c,.int .i64 g.fu,.bool g.up,.int .i64 g.t.r.v,.slice m.ak m.nk m.ck,.int .i64 g.t.r.t,.int .i64 g.t.ver,.slice m.av m.nv m.cv,.slice m.ad m.nd m.cd] 35 (0,0)
theorem BI.turns {B:Nat} {n:Nat} {xs:List Int} (h:BI w a n xs) (hg:w.grownBy w' (some B)) (ho:Off B a):BI w' a n xs:=⟨zax h.at_ hg ho,h.len,h.max⟩
structure GIn (w:World) (m:GA) (g:Gt):Prop where
  ws:BW w m.a m.n m.c g.ws
  ks:BI w m.ak m.nk g.t.r.ks
  vo:BV w m.av m.nv m.cv g.vo
  di:BV w m.ad m.nd m.cd g.di
theorem GIn.below {m:GA} (h:GIn w m g) (hb:Below w.heap.size w w'):GIn w' m g:=⟨h.ws.below hb,h.ks.below hb,h.vo.below hb,h.di.below hb⟩
def gsv (s:Gs):Value:=.agg #[.int .i64 s.n,.int .i64 s.v,.bool s.co,.bool s.ab,.bool s.en]
def gsO (s:Gs):Obj:=.cells #[.int .i64 s.n,.int .i64 s.v,.bool s.co,.bool s.ab,.bool s.en] 72 (0,0)
theorem gtE_1 (h:lchk g.ws g.fu≠0):gtE g=lchk g.ws g.fu:=by unfold gtE;rw [if_pos h]
theorem gtE_2 (h:lchk g.ws g.fu=0) (h2:gtB g=false):gtE g=4:=by unfold gtE;rw [if_neg (by simpa using h),if_neg (by rw [h2];decide)]
theorem gtE_3 (h:lchk g.ws g.fu=0) (h2:gtB g=true):gtE g=trE g.t:=by unfold gtE;rw [if_neg (by simpa using h),if_pos h2]
theorem zen (h:gtE g=0):lchk g.ws g.fu=0∧(1≤g.vo.length∧g.vo.length≤4)∧g.di.length=g.vo.length∧trE g.t=0:=by
  rcases Decidable.em (lchk g.ws g.fu=0) with h1|h1
  {
  cases h2:gtB g
  { rw [gtE_2 h1 h2] at h;cases h }
  {
  rw [gtE_3 h1 h2] at h;unfold gtB inB at h2
  simp at h2
  exact⟨h1,⟨by omega,by omega⟩,h2.2,h⟩
  }
  }
  {
  rw [gtE_1 h1] at h;exact absurd h h1
  }
abbrev aG (m:GA) (g:Gt):Array Value:=#[.slice m.a m.n m.c,.int .i64 g.fu,.bool g.up,.int .i64 g.t.r.v,.slice m.ak m.nk m.ck,.int .i64 g.t.r.t,.int .i64 g.t.ver,.slice m.av m.nv m.cv,.slice m.ad m.nd m.cd]
abbrev aS (s:Gs):Array Value:=#[.int .i64 s.n,.int .i64 s.v,.bool s.co,.bool s.ab,.bool s.en]
end
section
open Go.RowKit
theorem zdr (n a b:Int) (w:World):Calls Tryz.prog 134 #[.int .i64 n,.int .i64 a,.int .i64 b] w fun e w' =>e=.returned (.bool (inR n a b))∧w' =w:=by
  by_cases h0:a≤n
  {
  by_cases h1:n≤b
  {
  have hd:decide (n≤b)=true:=by simp;omega
  go_enter Tryz.func134,Tryz.ntmps134;go_wp2;go_ret;exact⟨zan (inR_t h0 h1).symm,rfl⟩
  }
  {
  have hd:decide (n≤b)=false:=by simp;omega
  go_enter Tryz.func134,Tryz.ntmps134;go_wp2;go_ret;exact⟨zan (inR_hi (by omega)).symm,rfl⟩
  }
  }
  {
  go_enter Tryz.func134,Tryz.ntmps134;go_wp2;go_ret;exact⟨zan (inR_lo (by omega)).symm,rfl⟩
  }
theorem has_hit {α:Type} [DecidableEq α] {xs:List α} {x:α} {k:Nat} (hk:k<xs.length) (h:x=xs[k]):has xs x=true:=by
  unfold has;rw [h]
  simp
theorem has_not {α:Type} [DecidableEq α] {xs:List α} {x:α} (h:x∉xs):has xs x=false:=by
  unfold has
  simp [h]
theorem znw {α:Type} {xs:List α} {x:α} {k:Nat} (hk:k<xs.length) (h:x∉xs.take k) (hne: ¬x=xs[k]):x∉xs.take (k+1):=by
  rw [List.take_succ_eq_append_getElem hk];simp only [List.mem_append,List.mem_singleton,not_or];exact⟨h,hne⟩
theorem zp3 (a:Option Addr) (n c:Nat) (xs:List Int) (x:Int) (w:World) (h:BI w a n xs):
    Calls Tryz.prog 113 #[.slice a n c,.int .i64 x] w fun e w' =>(∃q:Int,e=.returned (.int .i64 q)∧decide (0≤q)=has xs x)∧w' =w:=by
  obtain ⟨h,hn,hm⟩:=h;unfold maxLen at hm;have HN:Hid (xs.length=n):=hn;go_enter Tryz.func113,Tryz.ntmps113;go_wp2
  go_loop [8] (fun i=>∃k:Nat,k≤n∧i=.int .i64 k∧Hid (x∉xs.take k)) (fun i=>n - (intOf i).toNat)
  case atStart=>exact⟨0,Nat.zero_le _,rfl,by show _∉_;simp⟩
  case round=>
    obtain ⟨k,hk,rfl,ht⟩:=hrel
    by_cases hlt:k<n
    {
    rcases h with rfl| ⟨b0,o0,rfl,hc0⟩
    { simp at hn;omega }
    have hkx:k<xs.length:=by omega
    have e0:=hc0 k hkx;rw [show xs.getD k 0=xs[k] by simp [hkx]] at e0;clear hn hc0
    by_cases he:x=xs[k]
    {
    have hb: (x==xs[k])=true:=by simpa using he
    have HE:=hide (has_hit hkx he);clear he;generalize xs[k]=y at *;go_wp2;go_ret;exact⟨⟨_,rfl,by rw [HE.out];simp⟩,rfl⟩
    }
    {
    have hb: (x==xs[k])=false:=by simpa using he
    have HE:=hide (znw hkx ht.out he);clear he;generalize xs[k]=y at *;go_wp2
    go_round
    case rel=>exact⟨k+1,by omega,by go_num,HE.out⟩
    case measure=>simp [intOf];omega
    }
    }
    {
    go_wp2;go_ret;have hx:=ht.out;rw [List.take_of_length_le (by omega)] at hx;exact⟨⟨-1,rfl,by rw [has_not hx];rfl⟩,rfl⟩
    }
theorem zmr (a:Option Addr) (n c:Nat) (xs:List Int) (x:Int) (w:World) (h:BI w a n xs):
    Calls Tryz.prog 31 #[.slice a n c,.int .i64 x] w fun e w' =>e=.returned (.bool (has xs x))∧w' =w:=by
  have hc:=hide (zp3 a n c xs x w h);clear h;generalize has xs x=r at *;go_enter Tryz.func31,Tryz.ntmps31;go_wp2_with fail;refine(zae hc).mono ?_;rintro e w' ⟨⟨q,rfl,hq⟩,rfl⟩;go_wp2;go_ret;exact⟨rfl,rfl⟩
theorem sig_guard:Tryz.prog.eqGuardType Tryz.prog.depth 111=false:=by kernel_rfl
theorem zrn (a:Option Addr) (n c:Nat) (l:List S2) (s:S2) (w:World) (h:BG w a n l):
    Calls Tryz.prog 327 #[.slice a n c,sv s] w fun e w' =>(∃q:Int,e=.returned (.int .i64 q)∧decide (0≤q)=has l s)∧Below w.heap.size w w' :=by
  obtain ⟨h,hn,hm⟩:=h;unfold maxLen at hm;have HN:=hide hn;have hg:=sig_guard;have hw0:Below w.heap.size w (w.alloc (.cells #[.int .i64 s.1,.int .i64 s.2] 111)):=bA1;have b0:=heap_alloc_last w (.cells #[.int .i64 s.1,.int .i64 s.2] 111);have y0:=zaa b0 0 _ rfl;have y1:=zaa b0 1 _ rfl;have i0:=h.below hw0;unfold sv;clear hn b0 h;go_enter Tryz.func327,Tryz.ntmps327;go_wp2;generalize w.alloc (.cells #[.int .i64 s.1,.int .i64 s.2] 111)=W at *
  go_loopw [8] (fun i wr=>∃k:Nat,k≤n∧i=.int .i64 k∧Hid (s∉l.take k)∧∃m,wr=W.drewN m) (fun i _=>n - (intOf i).toNat)
  case atStart=>exact⟨0,Nat.zero_le _,rfl,by show _∉_;simp,0,rfl⟩
  case round=>
    obtain ⟨k,hk,rfl,ht,m,rfl⟩:=hrel
    by_cases hlt:k<n
    {
    rcases i0 with rfl| ⟨bb,oo,rfl,hc0⟩
    {
    have:=HN.out
    simp at this
    omega
    }
    have hkx:k<l.length:=by rw [HN.out];exact hlt
    obtain ⟨p0,p1⟩:=hc0 k l[k] (List.getElem?_eq_getElem hkx);clear hc0
    by_cases he:s=l[k]
    {
    have HE:=hide (has_hit hkx he);rw [←he] at p0 p1;clear he;go_wp2;go_quiet (fail);go_wp2;go_ret;exact⟨⟨_,rfl,by rw [HE.out];simp⟩,below_drewN (below_drewN hw0 _) _⟩
    }
    {
    have HE:=hide (znw hkx ht.out he);generalize l[k]=y at *;obtain ⟨s0,s1⟩:=s;obtain ⟨z0,z1⟩:=y;simp only at p0 p1 y0 y1
    by_cases d0:s0=z0
    {
    have d1: ¬s1=z1:=fun e=>he (by rw [d0,e])
    subst d0;clear he;go_wp2;go_quiet (fail);go_wp2
    go_roundw
    case rel=>exact⟨k+1,by omega,by go_num,HE.out,m+nq,rfl⟩
    case measure=>simp [intOf];omega
    }
    {
    clear he;go_wp2;go_quiet (fail);go_wp2
    go_roundw
    case rel=>exact⟨k+1,by omega,by go_num,HE.out,m+nq,rfl⟩
    case measure=>simp [intOf];omega
    }
    }
    }
    {
    go_wp2;go_ret;have hx:=ht.out;rw [List.take_of_length_le (by rw [HN.out];omega)] at hx;exact⟨⟨-1,rfl,by rw [has_not hx];rfl⟩,below_drewN hw0 _⟩
    }
theorem zm1 (a:Option Addr) (n c:Nat) (l:List S2) (s:S2) (w:World) (h:BG w a n l):
    Calls Tryz.prog 321 #[.slice a n c,sv s] w fun e w' =>e=.returned (.bool (has l s))∧Below w.heap.size w w' :=by
  have hc:=hide (fun W hW=>zrn a n c l s W hW);have hw0:Below w.heap.size w (w.alloc (.cells #[.int .i64 s.1,.int .i64 s.2] 111)):=bA1;have i0:=h.below hw0;clear h;generalize has l s=r at *;unfold sv at hc⊢;go_enter Tryz.func321,Tryz.ntmps321;go_wp2_with fail;generalize w.alloc (.cells #[.int .i64 s.1,.int .i64 s.2] 111)=W at *;refine(zae hc _ i0).mono ?_;rintro e w' ⟨⟨q,rfl,hq⟩,hb⟩;go_wp2;go_ret;exact⟨rfl,(bT hw0 hb)⟩
theorem zd3 (a:Option Addr) (n c:Nat) (l:List S2) (w:World) (h:BG w a n l):
    Calls Tryz.prog 39 #[.slice a n c] w fun e w' =>e=.returned (.int .i64 (sigE l))∧Below w.heap.size w w' :=by
  obtain ⟨h,hn,hm⟩:=h;unfold maxLen at hm;have HN:=hide hn
  by_cases h1:360<n
  {
  have HE:=hide (sigE_many (l:=l) (by omega));clear hn;go_enter Tryz.func39,Tryz.ntmps39;go_wp2_with fail;go_ret;exact⟨zap HE.out.symm,Below.refl _ _⟩
  }
  {
  have hle:=hide (show l.length≤360 by omega);clear hn;go_enter Tryz.func39,Tryz.ntmps39;go_wp2_with fail
  go_loopw [10] (fun i wr=>∃k:Nat,k≤n∧i=.int .i64 k∧Below w.heap.size w wr∧Hid ((l.take k).all sOK=true)) (fun i _=>n - (intOf i).toNat)
  case atStart=>exact⟨0,Nat.zero_le _,rfl,Below.refl _ _,by show _=_;simp⟩
  case round=>
    obtain ⟨wq,rfl⟩: ∃wq:World,wq=wr:=⟨_,rfl⟩;obtain ⟨k,hk,rfl,hw,ht⟩:=hrel
    by_cases hlt:k<n
    {
    have i1:=h.below hw
    rcases i1 with rfl| ⟨b0,o0,rfl,hc0⟩
    {
    have:=HN.out
    simp at this
    omega
    }
    have hkx:k<l.length:=by rw [HN.out];exact hlt
    obtain ⟨e0,e1⟩:=hc0 k l[k] (List.getElem?_eq_getElem hkx);clear hc0;have hw1:=hw.alloc hw.size (.cells #[.int .i64 l[k].1,.int .i64 l[k].2] 111);have HB:=hide (sigE_bad hle.out hkx);have HX:=hide (sOK_step hkx ht.out);generalize l[k]=s at *;cases g1:inR s.1 1 50
    {
    have HV:=hide (HB.out (by unfold sOK;rw [g1];rfl))
    go_wp2_with (go_at_call 134;refine(zdr _ _ _ _).mono ?_;rintro e w' ⟨rfl,rfl⟩)
    go_ret;exact⟨zap HV.out.symm,hw1⟩
    }
    {
    cases g2:inR s.2 1 60
    {
    have HV:=hide (HB.out (by unfold sOK;rw [g1,g2];rfl))
    go_wp2_with (go_at_call 134;refine(zdr _ _ _ _).mono ?_;rintro e w' ⟨rfl,rfl⟩)
    go_ret;exact⟨zap HV.out.symm,hw1⟩
    }
    {
    have HV:=hide (HX.out (by unfold sOK;rw [g1,g2];rfl))
    go_wp2_with (go_at_call 134;refine(zdr _ _ _ _).mono ?_;rintro e w' ⟨rfl,rfl⟩)
    go_roundw
    case rel=>exact⟨k+1,by omega,by go_num,hw1,HV.out⟩
    case measure=>simp [intOf];omega
    }
    }
    }
    {
    go_wp2_with fail;go_ret;have hx:=ht.out;rw [List.take_of_length_le (by rw [HN.out];omega)] at hx;exact⟨zap (sigE_ok hle.out hx).symm,hw⟩
    }
  }
theorem zla {t:Tr} (h:inR t.ver 0 1000=false):trE t=3:=by unfold trE;rw [h];rfl
theorem zkd {t:Tr} (h:inR t.ver 0 1000=true):trE t=t.r.e:=by unfold trE;rw [h];rfl
theorem zee (t:Tr) (a:Option Addr) (n c:Nat) (w:World) (h:BI w a n t.r.ks):
    Calls Tryz.prog 146 #[trv t.r.v a n c t.r.t t.ver] w fun e w' =>e=.returned (.int .i64 (trE t))∧Below w.heap.size w w' :=by
  have hw0:Below w.heap.size w (w.alloc (.cells #[.int .i64 t.r.v,.slice a n c,.int .i64 t.r.t,.int .i64 t.ver] 32)):=bA1;have i0:=h.below hw0;have HK:=hide (fun W (hW:BI W a n t.r.ks)=>zeu t.r.v a n c t.r.t t.r.ks W hW.at_ hW.len hW.max);unfold rv at HK;unfold trv;cases h1:inR t.ver 0 1000
  {
  have HE:=hide (zla h1);go_enter Tryz.func146,Tryz.ntmps146
  go_wp2_with (go_at_call 134;refine(zdr _ _ _ _).mono ?_;rintro e w' ⟨rfl,rfl⟩)
  go_ret;exact⟨zap HE.out.symm,hw0⟩
  }
  {
  have HE:=hide (zkd h1);go_enter Tryz.func146,Tryz.ntmps146
  go_wp2_with (first| (go_at_call 134;refine(zdr _ _ _ _).mono ?_;rintro e w' ⟨rfl,rfl⟩)| (go_at_call 216;refine(HK.out _ i0).mono ?_;rintro e w1 ⟨rfl,hb1⟩))
  go_ret;exact⟨zap HE.out.symm,(bT hw0 hb1)⟩
  }
end
section
open Go.RowKit
attribute [local go_sem ↓] Go.wp_at_zero Go.wp_at_succ
theorem zbc (n a b:Int) (w:World):Calls Tryz.prog 135 #[.int .i64 n,.int .i64 a,.int .i64 b] w fun e w' =>e=.returned (.bool (inB n a b))∧w' =w:=by
  by_cases h0:a≤n
  {
  by_cases h1:n≤b
  {
  go_enter Tryz.func135,Tryz.ntmps135;go_wp2;go_ret;exact⟨zan (inB_t h0 h1).symm,rfl⟩
  }
  {
  have hd:decide (n≤b)=false:=by simpa using h1
  go_enter Tryz.func135,Tryz.ntmps135;go_wp2;go_ret;exact⟨zan (inB_hi (by omega)).symm,rfl⟩
  }
  }
  {
  go_enter Tryz.func135,Tryz.ntmps135;go_wp2;go_ret;exact⟨zan (inB_lo (by omega)).symm,rfl⟩
  }
theorem zej (s:Gs) (w:World):Calls Tryz.prog 234 #[gsv s] w fun e w' =>e=.returned (.bool (decG s))∧Below w.heap.size w w' :=by
  unfold gsv decG;cases h:s.co
  {
  go_enter Tryz.func234,Tryz.ntmps234;go_wp2;go_ret;exact⟨zan (by simp),bA1⟩
  }
  {
  go_enter Tryz.func234,Tryz.ntmps234;go_wp2;go_ret;exact⟨zan (by simp),bA1⟩
  }
theorem zca (g:Gt) (m:GA) (w:World) (h:GIn w m g):
    Calls Tryz.prog 61 #[gtv g m] w fun e w' =>e=.returned (.int .i64 (gtE g))∧Below w.heap.size w w' :=by
  have hw0:Below w.heap.size w (w.alloc (.cells (gtC g m) 35)):=bA1;have b0:=hide (heap_alloc_last w (.cells (gtC g m) 35));have HL:=hide (fun W (hW:Below w.heap.size w W)=>zd5 m.a m.n m.c g.ws g.fu W (h.ws.below hW).at_ h.ws.len h.ws.max);have HT:=hide (fun W (hW:Below w.heap.size w W)=>zee g.t m.ak m.nk m.ck W (h.ks.below hW));unfold trv at HT;have Lv:=hide h.vo.len;have Ld:=hide h.di.len;have hv:=h.vo.max;have hd:=h.di.max;unfold maxLen at hv hd;unfold gtv;unfold gtC at hw0 b0;clear h;have x0:=zaa b0.out 0 _ rfl;have x1:=zaa b0.out 1 _ rfl;go_enter Tryz.func61,Tryz.ntmps61;go_wp2_with fail;generalize w.alloc (.cells (aG m g) 35)=W at *;refine(zae HL _ hw0).mono ?_;rintro e w1 ⟨rfl,hb⟩;replace b0:=hide (zab b0.out hb);replace hw0:=bT hw0 hb;clear hb x0 x1 HL
  by_cases z1:lchk g.ws g.fu=0
  rotate_left
  {
  have HE:=hide (gtE_1 z1);have hq: (lchk g.ws g.fu !=0)=true:=by simpa using z1
  clear z1;generalize lchk g.ws g.fu=q at *;go_wp2_with fail;go_ret;exact⟨zap HE.out.symm,hw0⟩
  }
  have E2:=hide (gtE_2 z1);have E3:=hide (gtE_3 z1);rw [z1];clear z1;have x3:=zaa b0.out 3 _ rfl;have x4:=zaa b0.out 4 _ rfl;have x5:=zaa b0.out 5 _ rfl;have x6:=zaa b0.out 6 _ rfl;have x7:=zaa b0.out 7 _ rfl;have x8:=zaa b0.out 8 _ rfl;cases g1:inB (m.nv:Int) 1 4
  {
  have HE:=hide (E2.out (by unfold gtB;rw [Lv.out,g1];rfl))
  go_wp2_with (go_at_call 135;refine(zbc _ _ _ _).mono ?_;rintro e w' ⟨rfl,rfl⟩)
  go_ret;exact⟨zap HE.out.symm,hw0⟩
  }
  {
  by_cases z2:m.nd=m.nv
  rotate_left
  {
  have HE:=hide (E2.out (by unfold gtB;rw [Lv.out,Ld.out,g1];simpa using z2));have hq: ((m.nd:Int) != (m.nv:Int))=true:=by simp;omega
  clear z2
  go_wp2_with (go_at_call 135;refine(zbc _ _ _ _).mono ?_;rintro e w' ⟨rfl,rfl⟩)
  go_ret;exact⟨zap HE.out.symm,hw0⟩
  }
  {
  have HE:=hide (E3.out (by unfold gtB;rw [Lv.out,Ld.out,g1];simpa using z2));have hq: ((m.nd:Int) != (m.nv:Int))=false:=by simp;omega
  clear z2
  go_wp2_with (first| (go_at_call 135;refine(zbc _ _ _ _).mono ?_;rintro e w' ⟨rfl,rfl⟩)| (go_at_call 146;refine(zae HT _ hw0).mono ?_;rintro e w2 ⟨rfl,hb2⟩;replace hw0:=(bT hw0 hb2)))
  go_ret;exact⟨zap HE.out.symm,hw0⟩
  }
  }
end
section
open Go.RowKit
attribute [local go_sem ↓] Go.wp_at_zero Go.wp_at_succ
theorem trnG_2 {s:Gs} (h:k=2):trnG s k= ⟨s.n,s.v,!s.ab,s.ab,s.en⟩:=by unfold trnG;rw [if_pos h]
theorem trnG_3 {s:Gs} (h:k=3):trnG s k= ⟨s.n,s.v,s.co,!s.co,s.en⟩:=by unfold trnG;rw [if_neg (by omega),if_pos h]
theorem trnG_4 {s:Gs} (h:k=4):trnG s k= ⟨s.n,s.v,s.co,s.ab,decG s⟩:=by unfold trnG;rw [if_neg (by omega),if_neg (by omega),if_pos h]
theorem trnG_0 {s:Gs} (h2:k≠2) (h3:k≠3) (h4:k≠4):trnG s k=s:=by unfold trnG;rw [if_neg h2,if_neg h3,if_neg h4]
theorem zp9 (s:Gs) (k:Int) (w:World):Calls Tryz.prog 172 #[gsv s,.int .i64 k] w fun e w' =>e=.returned (gsv (trnG s k))∧Below w.heap.size w w' :=by
  unfold gsv
  by_cases z2:k=2
  {
  have HE:=hide (trnG_2 (s:=s) z2);subst z2;go_enter Tryz.func172,Tryz.ntmps172;go_wp2_with fail;refine bodyPost_ret (v:=gsv ⟨s.n,s.v,!s.ab,s.ab,s.en⟩) (by simp [results,Tryz.results172,go_sem,gsv]) rfl ?_;rw [HE.out];exact⟨rfl,by(repeat(first|exact Below.refl _ _|refine Below.setCell ?_ (by simp) _|refine zaf ?_ _))⟩
  }
  by_cases z3:k=3
  {
  have HE:=hide (trnG_3 (s:=s) z3);subst z3;go_enter Tryz.func172,Tryz.ntmps172;go_wp2_with fail;refine bodyPost_ret (v:=gsv ⟨s.n,s.v,s.co,!s.co,s.en⟩) (by simp [results,Tryz.results172,go_sem,gsv]) rfl ?_;rw [HE.out];exact⟨rfl,by(repeat(first|exact Below.refl _ _|refine Below.setCell ?_ (by simp) _|refine zaf ?_ _))⟩
  }
  by_cases z4:k=4
  {
  have HE:=hide (trnG_4 (s:=s) z4);subst z4;have hw0:Below w.heap.size w ((w.alloc (.cells (aS s) 72)).alloc (.cells aX 72)):=bA2;have b0:Hid (((w.alloc (.cells (aS s) 72)).alloc (.cells aX 72)).heap[w.heap.size]?=some (.cells (aS s) 72 (0,0))):=zai (heap_alloc_last _ _) _;have b1:Hid (((w.alloc (.cells (aS s) 72)).alloc (.cells aX 72)).heap[w.heap.size+1]?=some (.cells aX 72 (0,0))):=zau _ _ _;have HD:=hide (zej s ((w.alloc (.cells (aS s) 72)).alloc (.cells aX 72)));unfold gsv at HD;go_enter Tryz.func172,Tryz.ntmps172;go_wp2_with fail;generalize ((w.alloc (.cells (aS s) 72)).alloc (.cells aX 72))=W at *;refine(zae HD).mono ?_;rintro e w1 ⟨rfl,hb⟩;replace b0:=hide (zab b0.out hb);replace b1:=hide (zab b1.out hb);replace hw0:=bT hw0 hb;obtain ⟨x0,x1,x2,x3,x4⟩:=cl5 b0.out;obtain ⟨y0,y1,y2,y3,y4⟩:=cl5 b1.out;obtain ⟨f0,f1,f2,f3,f4⟩:=fr5 b0.out;obtain ⟨g0,g1,g2,g3,g4⟩:=fr5 b1.out;clear hb HD;go_wp2_with fail;refine bodyPost_ret (v:=gsv ⟨s.n,s.v,s.co,s.ab,decG s⟩) (by simp [results,Tryz.results172,go_sem,gsv,y0,y1,y2,y3,y4]) rfl ?_;rw [HE.out];exact⟨rfl,(((((hw0.setCell (p:=⟨w.heap.size,4,none⟩) (Nat.le_refl _) _).setCell (p:=⟨w.heap.size+1,0,none⟩) (Nat.le_succ _) _).setCell (p:=⟨w.heap.size+1,1,none⟩) (Nat.le_succ _) _).setCell (p:=⟨w.heap.size+1,2,none⟩) (Nat.le_succ _) _).setCell (p:=⟨w.heap.size+1,3,none⟩) (Nat.le_succ _) _).setCell (p:=⟨w.heap.size+1,4,none⟩) (Nat.le_succ _) _⟩
  }
  {
  have HE:=hide (trnG_0 (s:=s) z2 z3 z4);have d2: (k==2)=false:=by simpa using z2
  have d3: (k==3)=false:=by simpa using z3
  have d4: (k==4)=false:=by simpa using z4
  clear z2 z3 z4;go_enter Tryz.func172,Tryz.ntmps172;go_wp2_with fail;refine bodyPost_ret (v:=gsv s) (by simp [results,Tryz.results172,go_sem,gsv]) rfl ?_;rw [HE.out];exact⟨rfl,by(repeat(first|exact Below.refl _ _|refine Below.setCell ?_ (by simp) _|refine zaf ?_ _))⟩
  }
end
section
open Go.RowKit
attribute [local go_sem ↓] Go.wp_at_zero Go.wp_at_succ
def RecM (w:World) (a:Option Addr) (rs:List (List Int)):Prop:=
  rs= []∨∃b cur,a=some ⟨b,0,none⟩∧w.heap[b]?=some (.cells cur 208 (0,0))∧∀(i:Nat) (r:List Int),rs[i]?=some r→∃g c,cur[i]?=some (Value.slice (some ⟨g,0,none⟩) r.length c)∧za5 w g r∧r.length≤c∧c≤maxLen
theorem RecM.turns {S:Nat} {cs:Array Value} (h:RecM w a rs) (hS:w.heap[S]?=some (.cells cs 84 (0,0))) (hg:w.grownBy w' (some S)):RecM w' a rs:=by
  rcases h with h| ⟨b,cur,rfl,hb,hr⟩
  { exact .inl h }
  {
  have hne: ∀(g:Nat) (cs' :Array Value) (t:TypeId),w.heap[g]?=some (.cells cs' t (0,0))→t≠84→g≠S:=by
    rintro g cs' t h1 h2 rfl;rw [hS] at h1
    simp at h1
    exact h2 h1.2.symm
  refine .inr ⟨b,cur,rfl,zar hb hg (hne _ _ _ hb (by decide)),fun i r hi=> ?_⟩;obtain ⟨g,c,h1,⟨cu,h2,h3⟩,h4⟩:=hr i r hi;exact⟨g,c,h1,⟨cu,zar h2 hg (hne _ _ _ h2 (by decide)),h3⟩,h4⟩
  }
theorem zbp.recM {w0:World} {v:Value} (h:zbp w0 w v rs): ∃a c,v=.slice a rs.length c∧rs.length≤c∧c≤maxLen∧RecM w a rs:=by
  obtain ⟨vs,hown,hr⟩:=h.own;obtain ⟨_,⟨hv,hn⟩| ⟨g,cap,cur,hv,hg,hh,hc,hm,_,ht⟩⟩:=hown
  { exact⟨none,0,by rw [hv,hn],by omega,by unfold maxLen;omega,.inl (List.eq_nil_of_length_eq_zero hn)⟩ }
  {
  refine⟨some ⟨g,0,none⟩,cap,hv,hc,hm,.inr ⟨g,cur,rfl,hh,fun i r hi=> ?_⟩⟩;obtain ⟨g1,c1,h1,h2,h3,h4⟩:=hr i r hi;refine⟨g1,c1, ?_,h2,h3,h4⟩;rw [←ht,List.getElem?_take] at h1
  split at h1
  { simpa using h1 }
  {
  cases h1
  }
  }
def RecsM (w:World) (rs:List (List Int)) (e:Ending) (w' :World):Prop:=
  (∃a c,e=.returned (.tuple #[.slice a rs.length c,.int .i64 0])∧RecM w' a rs∧rs.length≤c∧c≤maxLen)∧Below w.heap.size w w'
theorem zh9 (a:Option Addr) (n c:Nat) (ws:List Int) (fuel:Int) (w:World) (h:BW w a n c ws) (e1:lchk ws fuel=0):
    Calls Tryz.prog 26 #[.agg #[.slice a n c,.int .i64 fuel]] w (RecsM w (logR ws)):=by
  have hw:Below w.heap.size w (w.alloc (.cells #[.slice a n c,.int .i64 fuel] 28)):=bA1;have i0:=h.at_.below hw;have HS:=hide (fun W (h' :zag W a ws)=>zd5 a n c ws fuel W h' h.len h.max);have HG:=hide (fun W (h' :zag W a ws) (h64:64≤n)=>zfv a n c ws fuel W h' h.len h.max h64);have HP:=hide (fun W (h' :zag W a ws) (hm:n≤192) (hok:okL ws=true) (h64:64≤n)=>zmb a n c ws fuel (secN ws) W h' h.len h.cap hm hok (zgk ws) h64);have B0:=hide (heap_alloc_last w (.cells #[.slice a n c,.int .i64 fuel] 28));have parts:=zdm e1;rw [h.len] at parts;rw [e1] at HS;clear h e1;go_enter Tryz.func26,Tryz.ntmps26;go_wp2_with fail;generalize w.alloc (.cells #[.slice a n c,.int .i64 fuel] 28)=W at *;refine(zae HS _ i0).mono ?_;rintro e w1 ⟨rfl,hb1⟩;have hw1:=bT hw hb1;have c00:=zaa (zab B0.out hb1) 0 _ rfl;have c01:=zaa (zab B0.out hb1) 1 _ rfl;go_wp2_with fail;refine(zae HG _ (i0.below hb1) parts.2.1).mono ?_;rintro e w2 ⟨rfl,hb2⟩;have hw2:=bT hw1 hb2;have c10:=zaa (zab (zab B0.out hb1) hb2) 0 _ rfl;have c11:=zaa (zab (zab B0.out hb1) hb2) 1 _ rfl;go_wp2_with fail;refine(zae HP _ ((i0.below hb1).below hb2) parts.2.2.1 parts.2.2.2.1 parts.2.1).mono ?_;rintro e w3 ⟨⟨v,a3,m3,cc3,rfl,hmk,hi3,hn3,hm3,hok3⟩,hb3⟩;obtain ⟨av,cv,rfl,q1,q2,q3⟩:=hmk.recM;have HQ:=hide q3;clear hmk hn3 q3;have hw3:=bT hw2 hb3;go_wp2;go_ret2;exact⟨⟨av,cv,rfl,HQ.out,q1,q2⟩,hw3⟩
def usO (s:Us):Obj:=.cells #[.int .i64 s.slot,.int .i64 s.by',.int .i64 s.rdy] 84 (0,0)
def usv (s:Us):Value:=.agg #[.int .i64 s.slot,.int .i64 s.by',.int .i64 s.rdy]
theorem stR_step {k:Nat} (hk:k<rs.length):stR (rs.take (k+1))=zcf (stR (rs.take k)) rs[k]:=by
  unfold stR;rw [List.take_succ_eq_append_getElem hk,List.foldl_append];rfl
theorem zn1 (h:isR r 1 3=true) (h2:r.getD 1 0≤1):zcf s r= ⟨r.getD 1 0,r.getD 2 0,0⟩:=by unfold zcf;rw [if_pos (by rw [h];simpa using h2)]
theorem zng (h: ¬(isR r 1 3=true∧r.getD 1 0≤1)) (h2:isR r 2 2=true):zcf s r= ⟨s.slot,s.by',r.getD 1 0⟩:=by unfold zcf;rw [if_neg (by simpa using h),if_pos h2]
theorem zom (h: ¬(isR r 1 3=true∧r.getD 1 0≤1)) (h2: ¬isR r 2 2=true) (h3:isR r 3 2=true):zcf s r= ⟨s.slot,s.by',0⟩:=by unfold zcf;rw [if_neg (by simpa using h),if_neg h2,if_pos h3]
theorem znn (h: ¬(isR r 1 3=true∧r.getD 1 0≤1)) (h2: ¬isR r 2 2=true) (h3: ¬isR r 3 2=true):zcf s r=s:=by unfold zcf;rw [if_neg (by simpa using h),if_neg h2,if_neg h3]
theorem zlq {l:Nat} (h:isR r k l=true):r.length=l:=by
  unfold isR at h;rw [Bool.and_eq_true] at h
  simpa using h.1
structure SB (W:World) (B:Nat) (s:Us):Prop where
  b1:W.heap[B+1]?=some (usO us0)
  b2:W.heap[B+1+1]?=some (usO s)
theorem us_set3 {W:World} {b:Nat} {t:Us} (h:W.heap[b]?=some (usO s)): (((W.setCell ⟨b,0,none⟩ (.int .i64 t.slot)).setCell ⟨b,1,none⟩ (.int .i64 t.by')).setCell ⟨b,2,none⟩ (.int .i64 t.rdy)).heap[b]?=some (usO t):=by
  unfold usO at h⊢;simp only [World.setCell,Array.getElem?_modify]
  simp [h]
theorem us_set1 {W:World} {b:Nat} {x:Int} (h:W.heap[b]?=some (usO s)): (W.setCell ⟨b,2,none⟩ (.int .i64 x)).heap[b]?=some (usO ⟨s.slot,s.by',x⟩):=by
  unfold usO at h⊢;simp only [World.setCell,Array.getElem?_modify]
  simp [h]
theorem zbv {B:Option Nat} (h:w.grownBy w' B):w.grownBy w'.drew B:=⟨h.os,h.tape,h.output,h.size,h.block⟩
theorem zfn {b:Nat} {o:Obj} (h:w.heap[b]?=some o):w.drew.heap[b]?=some o:=h
def isI (r:List Int) (k l:Int):Bool:=isR r k l.toNat
theorem zo1 (a:Option Addr) (n c:Nat) (r:List Int) (k l:Int) (w:World) (h:zag w a r) (hn:r.length=n) (hm:n≤maxLen) (h0:0<l) (hl:l≤10):
    Calls Tryz.prog 177 #[.slice a n c,.int .i64 k,.int .i64 l] w fun e w' =>e=.returned (.bool (isI r k l))∧w' =w:=by
  obtain ⟨q,rfl⟩: ∃q:Nat,l=q:=⟨l.toNat,by omega⟩;exact zqu a n c r k q w h hn hm (by omega) (by omega)
theorem zaw (w:World) (B i:Nat) (v:Value):w.grownBy (w.setCell ⟨B,i,none⟩ v) (some B):=zac (World.grownBy.refl _ _) i v
theorem zgc (a:Option Addr) (n c:Nat) (ws:List Int) (fuel:Int) (w:World) (h:BW w a n c ws) (e1:lchk ws fuel=0):
    Calls Tryz.prog 111 #[.agg #[.slice a n c,.int .i64 fuel]] w fun e w' =>e=.returned (usv (stOf ws))∧Below w.heap.size w w' :=by
  have hw0:Below w.heap.size w (((w.alloc (.cells #[.slice a n c,.int .i64 fuel] 28)).alloc (usO us0)).alloc (usO us0)):=(bA2).alloc (by simp;omega) _;have b0:Hid ((((w.alloc (.cells #[.slice a n c,.int .i64 fuel] 28)).alloc (usO us0)).alloc (usO us0)).heap[w.heap.size]?=some (.cells #[.slice a n c,.int .i64 fuel] 28 (0,0))):=zai (zai (heap_alloc_last _ _) _) _;have sb:Hid (SB (((w.alloc (.cells #[.slice a n c,.int .i64 fuel] 28)).alloc (usO us0)).alloc (usO us0)) w.heap.size us0):=⟨zai (zau _ _ _) _,zb9 _ _ _ _⟩;have HR:=hide (fun W (hW:Below w.heap.size w W)=>zh9 a n c ws fuel W (h.below hW) e1);have hfew: (logR ws).length≤31:=zoq (by have:=zdm e1;omega);have HS:Hid (stOf ws=stR (logR ws)):=rfl;clear h e1;generalize logR ws=rs at *;have x0:=zaa b0.out 0 _ rfl;have x1:=zaa b0.out 1 _ rfl;unfold usO us0 at hw0 b0 sb x0 x1;go_enter Tryz.func111,Tryz.ntmps111;go_wp2_with fail;generalize ((w.alloc (.cells #[.slice a n c,.int .i64 fuel] 28)).alloc (.cells #[.int .i64 0,.int .i64 0,.int .i64 0] 84)).alloc (.cells #[.int .i64 0,.int .i64 0,.int .i64 0] 84)=W at *;refine(zae HR _ hw0).mono ?_;rintro e w1 ⟨⟨ar,cr,rfl,hrm,hlc,hcm⟩,hb⟩;replace sb:Hid (SB w1 w.heap.size us0):=⟨zab sb.out.b1 hb,zab sb.out.b2 hb⟩;replace hw0:=bT hw0 hb;clear hb HR x0 x1 b0;obtain ⟨nr,hnr⟩: ∃nr,nr=rs.length:=⟨_,rfl⟩;rw [←hnr] at hfew hlc⊢;have LR:=hide hnr;have HM:=hide hrm;clear hnr hrm;go_wp2_with fail
  go_loopw [15] (fun i wr=>∃k:Nat,k≤nr∧i=.int .i64 k∧Below w.heap.size w wr∧Hid (SB wr w.heap.size (stR (rs.take k)))∧Hid (RecM wr ar rs)) (fun i _=>nr - (intOf i).toNat)
  case atStart=>exact⟨0,Nat.zero_le _,rfl,hw0,by show SB _ _ _;simpa [stR] using sb.out,HM⟩
  case round=>
    clear hw0 sb HM;obtain ⟨wq,rfl⟩: ∃wq:World,wq=wr:=⟨_,rfl⟩;obtain ⟨k,hk,rfl,hw,sb,hm⟩:=hrel;generalize hst:stR (rs.take k)=st at *
    by_cases hlt:k<nr
    {
    have hkx:k<rs.length:=by rw [←LR.out];exact hlt
    have HX:=hide (stR_step hkx);rw [hst] at HX
    rcases hm.out with e| ⟨b,cur,rfl,hb,hr⟩
    { rw [e] at hkx;simp at hkx }
    obtain ⟨g,cg,h1,h2,h3,h4⟩:=hr k rs[k] (List.getElem?_eq_getElem hkx);have ec:=zaa hb k _ h1;have hin:=h2.isInts;have hcell:=fun i hi=>h2.cell i hi
    clear hst hr h1 hb;generalize rs[k]=r at *;obtain ⟨m,hmr⟩: ∃m,m=r.length:=⟨_,rfl⟩;rw [←hmr] at ec h3;unfold maxLen at h4;have HI:=hide (fun (k:Int) (l:Int) (h0:0<l) (h1:l≤10)=>zo1 (some ⟨g,0,none⟩) m cg r k l wq hin hmr.symm (by unfold maxLen;omega) h0 h1);have LM:=hide hmr;have S2:=hide sb.out.b2;have S1:=hide sb.out.b1;have N1:=hide (zn1 (s:=st) (r:=r));have N2:=hide (zng (s:=st) (r:=r));have N3:=hide (zom (s:=st) (r:=r));have N0:=hide (znn (s:=st) (r:=r));have C1:=hide (hcell 1);have C2:=hide (hcell 2);clear hmr hcell hin h2;have frame: ∀(w' :World) (s' :Us),wq.grownBy w' (some (w.heap.size+1+1))→w'.heap[w.heap.size+1+1]?=some (usO s')→Below w.heap.size w w' ∧SB w' w.heap.size s' ∧RecM w' (some ⟨b,0,none⟩) rs:=by
      intro w' s' hg hb2;exact⟨zam hw hg (by omega) hw.size,⟨zar S1.out hg (by omega),hb2⟩,hm.out.turns (by unfold usO at S2;exact S2.out) hg⟩
    have FR:=hide frame;clear frame;unfold usO us0 at S1;unfold usO at S2;have s0:=zaa S2.out 0 _ rfl;have s1:=zaa S2.out 1 _ rfl;have s2:=zaa S2.out 2 _ rfl;have f0:=zad S2.out 0;have f1:=zad S2.out 1;have f2:=zad S2.out 2;cases g1:isI r 1 3
    {
    have hno: ¬(isR r 1 3=true∧r.getD 1 0≤1):=fun h=>by rw [show isR r 1 3=isI r 1 3 from rfl,g1] at h;cases h.1
    cases g2:isI r 2 2
    {
    have hn2: ¬isR r 2 2=true:=by rw [show isR r 2 2=isI r 2 2 from rfl,g2];decide
    cases g3:isI r 3 2
    {
    have HN:=hide (HX.out.trans (N0.out hno hn2 (by rw [show isR r 3 2=isI r 3 2 from rfl,g3];decide)));clear hno hn2
    go_wp2_with (go_at_call 177;refine(zae HI _ _ (by decide) (by decide)).mono ?_;rintro e w' ⟨rfl,rfl⟩)
    go_roundw
    case rel=>exact⟨k+1,by omega,by go_num,hw,by show SB _ _ _;rw [HN.out];exact sb.out,hm⟩
    case measure=>simp [intOf];omega
    }
    {
    have HN:=hide (HX.out.trans (N3.out hno hn2 g3));clear hno hn2
    go_wp2_with (go_at_call 177;refine(zae HI _ _ (by decide) (by decide)).mono ?_;rintro e w' ⟨rfl,rfl⟩)
    go_roundw
    case rel=>
      obtain ⟨q1,q2,q3⟩:=FR.out _ ⟨st.slot,st.by',0⟩ (zaw _ _ _ _) (us_set1 S2.out);exact⟨k+1,by omega,by go_num,q1,by show SB _ _ _;rw [HN.out];exact q2,q3⟩
    case measure=>simp [intOf];omega
    }
    }
    {
    have HN:=hide (HX.out.trans (N2.out hno g2));have hl:m=2:=by rw [LM.out];exact zlq g2
    subst hl;have c1:=C1.out (by rw [←LM.out];omega);clear hno;generalize r.getD 1 0=r1 at *
    go_wp2_with (go_at_call 177;refine(zae HI _ _ (by decide) (by decide)).mono ?_;rintro e w' ⟨rfl,rfl⟩)
    go_roundw
    case rel=>
      obtain ⟨q1,q2,q3⟩:=FR.out _ ⟨st.slot,st.by',r1⟩ (zaw _ _ _ _) (us_set1 S2.out);exact⟨k+1,by omega,by go_num,q1,by show SB _ _ _;rw [HN.out];exact q2,q3⟩
    case measure=>simp [intOf];omega
    }
    }
    {
    have hl:m=3:=by rw [LM.out];exact zlq g1
    subst hl;have c1:=C1.out (by rw [←LM.out];omega);have c2:=C2.out (by rw [←LM.out];omega)
    by_cases z:r.getD 1 0≤1
    {
    have HN:=hide (HX.out.trans (N1.out g1 z));clear N1 N2 N3 N0;generalize r.getD 1 0=r1 at *;generalize r.getD 2 0=r2 at *;go_upto_region 7 with (go_at_call 177;refine(zae HI _ _ (by decide) (by decide)).mono ?_;rintro e w' ⟨rfl,rfl⟩)
    go_region
    go_wp2_with fail
    go_roundw
    case rel=>
      obtain ⟨q1,q2,q3⟩:=FR.out _ ⟨r1,r2,0⟩ (zac (zac (zac (zbv (World.grownBy.refl _ _)) _ _) _ _) _ _) (us_set3 (t:=⟨r1,r2,0⟩) (zfn S2.out));exact⟨k+1,by omega,by go_num,q1,by show SB _ _ _;rw [HN.out];exact q2,q3⟩
    case measure=>simp [intOf];omega
    }
    {
    have hno: ¬(isR r 1 3=true∧r.getD 1 0≤1):=fun h=>z h.2
    have g2:isI r 2 2=false:=by unfold isI isR;rw [←LM.out];rfl
    have g3:isI r 3 2=false:=by unfold isI isR;rw [←LM.out];rfl
    have HN:=hide (HX.out.trans (N0.out hno (by rw [show isR r 2 2=isI r 2 2 from rfl,g2];decide) (by rw [show isR r 3 2=isI r 3 2 from rfl,g3];decide)));have d1:decide (r.getD 1 0≤1)=false:=by simpa using z
    clear hno N1 N2 N3 N0 z;generalize r.getD 1 0=r1 at *
    go_wp2_with (go_at_call 177;refine(zae HI _ _ (by decide) (by decide)).mono ?_;rintro e w' ⟨rfl,rfl⟩)
    go_roundw
    case rel=>exact⟨k+1,by omega,by go_num,hw,by show SB _ _ _;rw [HN.out];exact sb.out,hm⟩
    case measure=>simp [intOf];omega
    }
    }
    }
    {
    have hx:stR rs=st:=by rw [←hst,List.take_of_length_le (by rw [←LR.out];omega)]
    have HE:=hide (HS.out.trans hx);have S2:=hide sb.out.b2;have S1:=hide sb.out.b1;unfold usO us0 at S1;unfold usO at S2;have s0:=zaa S2.out 0 _ rfl;have s1:=zaa S2.out 1 _ rfl;have s2:=zaa S2.out 2 _ rfl;have y0:=zaa S1.out 0 _ rfl;have y1:=zaa S1.out 1 _ rfl;have y2:=zaa S1.out 2 _ rfl;have f0:=zad S1.out 0;have f1:=zad S1.out 1;have f2:=zad S1.out 2;clear hx hst;go_wp2_with fail;refine bodyPost_ret (v:=usv st) (by simp [results,Tryz.results111,go_sem,usv,y0,y1,y2]) rfl ?_;rw [HE.out];exact⟨rfl,((hw.setCell (by show w.heap.size≤w.heap.size+1;omega) _).setCell (by show w.heap.size≤w.heap.size+1;omega) _).setCell (by show w.heap.size≤w.heap.size+1;omega) _⟩
    }
end
end Go.Proofs.YthmekfcgdfckaaaGreatDoor
