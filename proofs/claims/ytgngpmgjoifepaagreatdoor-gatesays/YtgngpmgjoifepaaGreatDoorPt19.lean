/- The contract of trust.Turn. -/
import Derived.Test.YtgngpmgjoifepaaGreatDoorPt18
namespace Go.Proofs.YtgngpmgjoifepaaGreatDoor
open Go.RowKit

theorem turnE_1 {ss : List ByteArray} {l : List S2} {t : Tr} {x : Rt} {sigs : List Int} (h1 : trE t ≠ 0) : turnE ss l t x sigs = trE t := by unfold turnE; rw [if_neg h1]
theorem turnE_2 {ss : List ByteArray} {l : List S2} {t : Tr} {x : Rt} {sigs : List Int} (h1 : trE t = 0) (h2 : x.e ≠ 0) : turnE ss l t x sigs = x.e := by unfold turnE; rw [if_pos h1, if_neg h2]
theorem turnE_3 {ss : List ByteArray} {l : List S2} {t : Tr} {x : Rt} {sigs : List Int} (h1 : trE t = 0) (h2 : x.e = 0) (h3 : bookE ss ≠ 0) : turnE ss l t x sigs = bookE ss := by unfold turnE; rw [if_pos h1, if_pos h2, if_neg h3]
theorem turnE_4 {ss : List ByteArray} {l : List S2} {t : Tr} {x : Rt} {sigs : List Int} (h1 : trE t = 0) (h2 : x.e = 0) (h3 : bookE ss = 0) (h4 : ¬ x.v = t.r.v + 1) : turnE ss l t x sigs = 10 := by unfold turnE; rw [if_pos h1, if_pos h2, if_pos h3, if_neg h4]
theorem turnE_5 {ss : List ByteArray} {l : List S2} {t : Tr} {x : Rt} {sigs : List Int} (h1 : trE t = 0) (h2 : x.e = 0) (h3 : bookE ss = 0) (h4 : x.v = t.r.v + 1) (h5 : csE l t.r sigs (nameN ss (bs x.tx)) ≠ 0) : turnE ss l t x sigs = csE l t.r sigs (nameN ss (bs x.tx)) := by unfold turnE; rw [if_pos h1, if_pos h2, if_pos h3, if_pos h4, if_neg h5]
theorem turnE_6 {ss : List ByteArray} {l : List S2} {t : Tr} {x : Rt} {sigs : List Int} (h1 : trE t = 0) (h2 : x.e = 0) (h3 : bookE ss = 0) (h4 : x.v = t.r.v + 1) (h5 : csE l t.r sigs (nameN ss (bs x.tx)) = 0) : turnE ss l t x sigs = csE l x sigs (nameN ss (bs x.tx)) := by unfold turnE; rw [if_pos h1, if_pos h2, if_pos h3, if_pos h4, if_pos h5]

theorem trE_ok {t : Tr} (h : trE t = 0) : (0 ≤ t.ver ∧ t.ver ≤ 1000) ∧ t.r.e = 0 := by
  unfold trE at h
  split at h
  {
  rename_i h1
  rw [inR_iff] at h1
  exact ⟨h1, h⟩
  }
  {
  cases h

  }
def tz : Tr := ⟨⟨0, [], 0⟩, 0⟩
def TAns (w : World) (e : Ending) (t : Tr) (q : Int) (F : Option Addr → Prop) : Prop := ∃ a n c, e = .returned (.tuple #[trv t.r.v a n c t.r.t t.ver, .int .i64 q]) ∧ BI w a n t.r.ks ∧ F a
def Frsh (B : Nat) (a : Option Addr) : Prop := ∀ ad, a = some ad → B ≤ ad.block
theorem frsh_none (B : Nat) : Frsh B none := fun _ h => by cases h
theorem tAns_z {w : World} {q q2 : Int} {F : Option Addr → Prop} (h : q = q2) (hF : F none) : TAns w (.returned (.tuple #[.agg #[.int .i64 0, .slice none 0 0, .int .i64 0, .int .i64 0], .int .i64 q])) tz q2 F := by
  subst h
  exact ⟨none, 0, 0, rfl, ⟨.inl rfl, rfl, by decide⟩, hF⟩
def turnT (q : Int) (t : Tr) (x : Rt) : Tr := if q = 0 then ⟨x, t.ver⟩ else tz
theorem turnT_no {q : Int} {t : Tr} {x : Rt} (h : q ≠ 0) : turnT q t x = tz := by unfold turnT; rw [if_neg h]

theorem tAns_e {w : World} {q R : Int} {t : Tr} {x : Rt} {F : Option Addr → Prop} (hR : R = q) (hq : q ≠ 0) (hF : F none) : TAns w (.returned (.tuple #[.agg #[.int .i64 0, .slice none 0 0, .int .i64 0, .int .i64 0], .int .i64 q])) (turnT R t x) R F := by
  rw [turnT_no (by rw [hR]; exact hq)]
  exact tAns_z hR.symm hF

theorem BI.set2 {w : World} {a : Option Addr} {n : Nat} {xs : List Int} (h : BI w a n xs) (b i : Nat) (v : Value) (hb : xs = [] ∨ ∀ ad, a = some ad → ad.block ≠ b) : BI (w.setCell ⟨b, i, none⟩ v) a n xs := by
  refine ⟨?_, h.len, h.max⟩
  rcases h.at_ with h | ⟨b', off', rfl, hc⟩
  { exact .inl h }
  {
  rcases hb with hb | hb
  { exact .inl hb }
  {
  refine .inr ⟨_, _, rfl, fun k hk => ?_⟩
  rw [World.cell?_of_block (w := w) (Below.heap_setCell _ _ _ _ (hb _ rfl))]
  exact hc k hk
  }
  }
theorem BI.old {w : World} {a : Option Addr} {n : Nat} {xs : List Int} (h : BI w a n xs) : xs = [] ∨ ∀ ad, a = some ad → ad.block < w.heap.size := by
  rcases h.at_ with h | ⟨b', off', rfl, hc⟩
  { exact .inl h }
  {
  by_cases h0 : xs = []
  { exact .inl h0 }
  {
  refine .inr fun ad e => ?_
  cases e
  exact cell_lt (hc 0 (by cases xs with | nil => exact absurd rfl h0 | cons _ _ => simp))
  }
  }
theorem BI.set {w : World} {g off n : Nat} {xs : List Int} (h : BI w (some ⟨g, off, none⟩) n xs) (b i : Nat) (v : Value) (hb : g ≠ b) : BI (w.setCell ⟨b, i, none⟩ v) (some ⟨g, off, none⟩) n xs := by
  refine ⟨?_, h.len, h.max⟩
  rcases h.at_ with h | ⟨b', off', e, hc⟩
  { exact .inl h }
  {
  cases e
  refine .inr ⟨_, _, rfl, fun k hk => ?_⟩
  rw [World.cell?_of_block (w := w) (Below.heap_setCell _ _ _ _ hb)]
  exact hc k hk

  }
theorem last1 (w : World) (o1 o2 : Obj) : ((w.alloc o1).alloc o2).heap[w.heap.size + 1]? = some o2 := by
  have := heap_alloc_last (w.alloc o1) o2
  rwa [World.size_alloc] at this
theorem last2 (w : World) (o1 o2 o3 : Obj) : (((w.alloc o1).alloc o2).alloc o3).heap[w.heap.size + 1 + 1]? = some o3 := by
  have := heap_alloc_last ((w.alloc o1).alloc o2) o3
  rwa [World.size_alloc, World.size_alloc] at this
theorem last3 (w : World) (o1 o2 o3 o4 : Obj) : ((((w.alloc o1).alloc o2).alloc o3).alloc o4).heap[w.heap.size + 1 + 1 + 1]? = some o4 := by
  have := heap_alloc_last (((w.alloc o1).alloc o2).alloc o3) o4
  rwa [World.size_alloc, World.size_alloc, World.size_alloc] at this

def bkO (a : Option Addr) (n c : Nat) : Obj := .cells #[.slice a n c] 24 (0, 0)
def trO (t : Tr) (a : Option Addr) (n c : Nat) : Obj := .cells #[.int .i64 t.r.v, .slice a n c, .int .i64 t.r.t, .int .i64 t.ver] 65 (0, 0)
def rtO (x : Rt) (a : Option Addr) (n c : Nat) : Obj := .cells #[.int .i64 x.v, .slice a n c, .int .i64 x.t] 63 (0, 0)
def tzO : Obj := .cells #[.int .i64 0, .slice none 0 0, .int .i64 0, .int .i64 0] 65 (0, 0)

structure TB (W : World) (B : Nat) (o0 o1 o2 o3 : Obj) : Prop where
  b0 : W.heap[B]? = some o0
  b1 : W.heap[B + 1]? = some o1
  b2 : W.heap[B + 1 + 1]? = some o2
  b3 : W.heap[B + 1 + 1 + 1]? = some o3
theorem TB.below {W W' : World} {B : Nat} {o0 o1 o2 o3 : Obj} (h : TB W B o0 o1 o2 o3) (hb : Below W.heap.size W W') : TB W' B o0 o1 o2 o3 :=
  ⟨blk_below h.b0 hb, blk_below h.b1 hb, blk_below h.b2 hb, blk_below h.b3 hb⟩

set_option maxRecDepth 100000 in
theorem rx0 (a b c d e f : Value) (W : World) : (Instr.index 259 (.agg #[a, b, c, d, e, f]) (.int .i64 0)).run Tryz.prog W = .ok (.agg #[a, b, c]) W := by kernel_rfl
set_option maxRecDepth 100000 in
theorem rx1 (a b c d e f : Value) (W : World) : (Instr.index 259 (.agg #[a, b, c, d, e, f]) (.int .i64 1)).run Tryz.prog W = .ok (.agg #[d, e, f]) W := by kernel_rfl

set_option maxHeartbeats 3200000 in
set_option maxRecDepth 100000 in
theorem turn_any (ab : Option Addr) (nb cb : Nat) (ss : List ByteArray) (a1 : Option Addr) (n1 c1 : Nat) (l : List S2) (t : Tr) (a2 : Option Addr) (n2 c2 : Nat) (x : Rt) (a3 : Option Addr) (n3 c3 : Nat) (a4 : Option Addr) (n4 c4 : Nat) (sigs : List Int) (w : World)
    (h0 : BB w ab nb cb ss) (h1 : BG w a1 n1 l) (h2 : BI w a2 n2 t.r.ks) (h3 : BI w a3 n3 x.ks) (h4 : BI w a4 n4 sigs) (hT : Tab w) :
    Calls Tryz.prog 183 #[bookv ab nb cb, .slice a1 n1 c1, trv t.r.v a2 n2 c2 t.r.t t.ver, rv x.v a3 n3 c3 x.t, .slice a4 n4 c4] w fun e w' => TAns w' e (turnT (turnE ss l t x sigs) t x) (turnE ss l t x sigs) (Frsh w.heap.size) ∧ Below w.heap.size w w' := by
  have hw0 : Below w.heap.size w ((((w.alloc (bkO ab nb cb)).alloc (trO t a2 n2 c2)).alloc (rtO x a3 n3 c3)).alloc tzO) := ((((Below.refl _ _).alloc (Nat.le_refl _) _).alloc (by simp) _).alloc (by simp; omega) _).alloc (by simp; omega) _
  have tb : Hid (TB ((((w.alloc (bkO ab nb cb)).alloc (trO t a2 n2 c2)).alloc (rtO x a3 n3 c3)).alloc tzO) w.heap.size (bkO ab nb cb) (trO t a2 n2 c2) (rtO x a3 n3 c3) tzO) :=
    ⟨blk_alloc (blk_alloc (blk_alloc (heap_alloc_last _ _) _) _) _, blk_alloc (blk_alloc (last1 _ _ _) _) _, blk_alloc (last2 _ _ _ _) _, last3 _ _ _ _ _⟩
  have HA := hide (fun W (hW : Below w.heap.size w W) => checkTrust_any t a2 n2 c2 W (h2.below hW))
  have HB : Hid (∀ W, Below w.heap.size w W → Calls Tryz.prog 208 #[rv x.v a3 n3 c3 x.t] W fun e w' => e = .returned (.tuple #[.string (bs (rootTx x.v x.ks x.t)), .int .i64 x.e]) ∧ Below W.heap.size W w') := fun W hW => rootText_any x.v a3 n3 c3 x.t x.ks W (h3.below hW).at_ h3.len h3.max (hT.below hW)
  have HC := hide (fun W s (hW : Below w.heap.size w W) => name_any ab nb cb ss s W (h0.below hW).at_ h0.len h0.cap h0.max h0.short)
  have HD := hide (fun W (r : Rt) a n c name (hW : Below w.heap.size w W) (hr : BI W a n r.ks) => checkSigs_any a1 n1 c1 l r a n c a4 n4 c4 sigs name W (h1.below hW) hr (h4.below hW))
  have HT := hide (fun W ver (hW : Below w.heap.size w W) (hs : n3 ≤ 1000) => tTrusted_any x a3 n3 c3 ver W (h3.below hW) hs)
  have H2 := hide (fun W (hW : Below w.heap.size w W) => h2.below hW)
  have H3 := hide (fun W (hW : Below w.heap.size w W) => h3.below hW)
  have L3 := hide h3.len
  unfold trv at HA
  unfold trv rv bookv
  unfold rv at HB HD HT
  unfold trv at HT
  unfold bookv at HC
  clear h0 h1 h2 h3 h4 hT
  unfold bkO trO rtO tzO at hw0 tb
  go_enter Tryz.func183, Tryz.ntmps183
  go_wp2_with fail
  generalize (((w.alloc (.cells #[.slice ab nb cb] 24)).alloc (.cells #[.int .i64 t.r.v, .slice a2 n2 c2, .int .i64 t.r.t, .int .i64 t.ver] 65)).alloc (.cells #[.int .i64 x.v, .slice a3 n3 c3, .int .i64 x.t] 63)).alloc (.cells #[.int .i64 0, .slice none 0 0, .int .i64 0, .int .i64 0] 65) = W at *
  refine (unhide HA _ hw0).mono ?_
  rintro e w1 ⟨rfl, hb⟩
  replace tb := hide (tb.out.below hb)
  replace hw0 := hw0.trans (hb.mono hw0.size)
  clear hb HA
  by_cases z1 : trE t = 0
  rotate_left
  {
  have HE := hide (turnE_1 (ss := ss) (l := l) (x := x) (sigs := sigs) z1)
  have hq : (trE t != 0) = true := by simpa using z1
  have ZN := hide z1
  clear HB HC HD HT H2 H3 z1
  generalize trE t = q at *
  have y0 := blk_cell tb.out.b3 0 _ rfl
  have fy0 := blk_free tb.out.b3 0
  have y1 := blk_cell tb.out.b3 1 _ rfl
  have fy1 := blk_free tb.out.b3 1
  have y2 := blk_cell tb.out.b3 2 _ rfl
  have fy2 := blk_free tb.out.b3 2
  have y3 := blk_cell tb.out.b3 3 _ rfl
  have fy3 := blk_free tb.out.b3 3
  go_wp2_with fail
  refine bodyPost_ret (v := .tuple #[.agg #[.int .i64 0, .slice none 0 0, .int .i64 0, .int .i64 0], .int .i64 q]) (by simp [results, Tryz.results183, go_sem, y0, y1, y2, y3]) rfl ?_
  exact ⟨tAns_e HE.out ZN.out (frsh_none _), ((((hw0).setCell (by simp; omega) _).setCell (by simp; omega) _).setCell (by simp; omega) _).setCell (by simp; omega) _⟩
  }
  have Z1 := hide z1
  have hv := (rootE_ok (trE_ok z1).2).1
  rw [z1]
  clear z1
  have y0 := blk_cell tb.out.b2 0 _ rfl
  have y1 := blk_cell tb.out.b2 1 _ rfl
  have y2 := blk_cell tb.out.b2 2 _ rfl
  go_wp2_with fail
  refine (unhide HB _ hw0).mono ?_
  rintro e w2 ⟨rfl, hb⟩
  replace tb := hide (tb.out.below hb)
  replace hw0 := hw0.trans (hb.mono hw0.size)
  clear hb HB y0 y1 y2
  by_cases z2 : x.e = 0
  rotate_left
  {
  have HE := hide (turnE_2 (ss := ss) (l := l) (sigs := sigs) Z1.out z2)
  have hq : (x.e != 0) = true := by simpa using z2
  have ZN := hide z2
  clear HC HD HT H2 H3 z2 hv
  generalize x.e = q at *
  generalize bs (rootTx x.v x.ks x.t) = sx at *
  have y0 := blk_cell tb.out.b3 0 _ rfl
  have fy0 := blk_free tb.out.b3 0
  have y1 := blk_cell tb.out.b3 1 _ rfl
  have fy1 := blk_free tb.out.b3 1
  have y2 := blk_cell tb.out.b3 2 _ rfl
  have fy2 := blk_free tb.out.b3 2
  have y3 := blk_cell tb.out.b3 3 _ rfl
  have fy3 := blk_free tb.out.b3 3
  go_wp2_with fail
  refine bodyPost_ret (v := .tuple #[.agg #[.int .i64 0, .slice none 0 0, .int .i64 0, .int .i64 0], .int .i64 q]) (by simp [results, Tryz.results183, go_sem, y0, y1, y2, y3]) rfl ?_
  exact ⟨tAns_e HE.out ZN.out (frsh_none _), ((((hw0).setCell (by simp; omega) _).setCell (by simp; omega) _).setCell (by simp; omega) _).setCell (by simp; omega) _⟩
  }
  have Z2 := hide z2
  have hn3 : n3 ≤ 1000 := by have := (rootE_ok z2).2.1; have := L3.out; omega
  rw [show rootTx x.v x.ks x.t = x.tx by unfold rootTx; rw [if_pos (show rootE x.v x.ks x.t = 0 from z2)]; rfl, z2]
  clear z2
  have y0 := blk_cell tb.out.b0 0 _ rfl
  generalize hsx : bs x.tx = sx
  replace hsx := hide hsx
  replace HC := hide (fun W hW => HC.out W sx hW)
  go_wp2_with fail
  refine (unhide HC _ hw0).mono ?_
  rintro e w3 ⟨rfl, hb⟩
  replace tb := hide (tb.out.below hb)
  replace hw0 := hw0.trans (hb.mono hw0.size)
  clear hb HC y0
  by_cases z3 : bookE ss = 0
  rotate_left
  {
  have HE := hide (turnE_3 (l := l) (sigs := sigs) Z1.out Z2.out z3)
  have hq : (bookE ss != 0) = true := by simpa using z3
  have ZN := hide z3
  clear HD HT H2 H3 z3 hv
  generalize bookE ss = q at *
  generalize nameE ss sx = q2 at *
  have y0 := blk_cell tb.out.b3 0 _ rfl
  have fy0 := blk_free tb.out.b3 0
  have y1 := blk_cell tb.out.b3 1 _ rfl
  have fy1 := blk_free tb.out.b3 1
  have y2 := blk_cell tb.out.b3 2 _ rfl
  have fy2 := blk_free tb.out.b3 2
  have y3 := blk_cell tb.out.b3 3 _ rfl
  have fy3 := blk_free tb.out.b3 3
  go_wp2_with fail
  refine bodyPost_ret (v := .tuple #[.agg #[.int .i64 0, .slice none 0 0, .int .i64 0, .int .i64 0], .int .i64 q]) (by simp [results, Tryz.results183, go_sem, y0, y1, y2, y3]) rfl ?_
  exact ⟨tAns_e HE.out ZN.out (frsh_none _), ((((hw0).setCell (by simp; omega) _).setCell (by simp; omega) _).setCell (by simp; omega) _).setCell (by simp; omega) _⟩
  }
  have Z3 := hide z3
  rw [show nameE ss sx = (nameN ss sx : Int) by unfold nameE; rw [if_pos z3], z3]
  clear z3
  have hwr : IntKind.i64.wrap (t.r.v + 1) = t.r.v + 1 := by rw [IntKind.wrap_i64]; omega
  by_cases z4 : x.v = t.r.v + 1
  rotate_left
  {
  have HE := hide (turnE_4 (l := l) (sigs := sigs) Z1.out Z2.out Z3.out z4)
  have hq : (x.v != t.r.v + 1) = true := by simpa using z4
  have ZN := hide (show (10 : Int) ≠ 0 by decide)
  clear HD HT H2 H3 z4 hv
  generalize (nameN ss sx : Int) = q2 at *
  have p0 := blk_cell tb.out.b1 0 _ rfl
  have p1 := blk_cell tb.out.b2 0 _ rfl
  have y0 := blk_cell tb.out.b3 0 _ rfl
  have fy0 := blk_free tb.out.b3 0
  have y1 := blk_cell tb.out.b3 1 _ rfl
  have fy1 := blk_free tb.out.b3 1
  have y2 := blk_cell tb.out.b3 2 _ rfl
  have fy2 := blk_free tb.out.b3 2
  have y3 := blk_cell tb.out.b3 3 _ rfl
  have fy3 := blk_free tb.out.b3 3
  go_wp2_with fail
  refine bodyPost_ret (v := .tuple #[.agg #[.int .i64 0, .slice none 0 0, .int .i64 0, .int .i64 0], .int .i64 10]) (by simp [results, Tryz.results183, go_sem, y0, y1, y2, y3]) rfl ?_
  exact ⟨tAns_e HE.out ZN.out (frsh_none _), ((((hw0).setCell (by simp; omega) _).setCell (by simp; omega) _).setCell (by simp; omega) _).setCell (by simp; omega) _⟩
  }
  have HE5 := hide (turnE_5 (l := l) (sigs := sigs) Z1.out Z2.out Z3.out z4)
  have HE6 := hide (turnE_6 (l := l) (sigs := sigs) Z1.out Z2.out Z3.out z4)
  have hq : (x.v != t.r.v + 1) = false := by simpa using z4
  rw [hsx.out] at HE5 HE6
  generalize (nameN ss sx : Int) = nm at *
  clear z4 hv hsx
  have p0 := blk_cell tb.out.b1 0 _ rfl
  have p1 := blk_cell tb.out.b1 1 _ rfl
  have p2 := blk_cell tb.out.b1 2 _ rfl
  have y0 := blk_cell tb.out.b2 0 _ rfl
  have y1 := blk_cell tb.out.b2 1 _ rfl
  have y2 := blk_cell tb.out.b2 2 _ rfl
  go_wp2_with fail
  clear p0 p1 p2 y0 y1 y2
  go_loopw [56] (fun i wr => ∃ k : Nat, k ≤ 2 ∧ i = .int .i64 k ∧ Below w.heap.size w wr ∧ Hid (TB wr w.heap.size (bkO ab nb cb) (trO t a2 n2 c2) (rtO x a3 n3 c3) tzO) ∧ Hid ((1 ≤ k → csE l t.r sigs nm = 0) ∧ (2 ≤ k → csE l x sigs nm = 0))) (fun i _ => 2 - (intOf i).toNat)
  case atStart => exact ⟨0, by decide, rfl, hw0, tb, ⟨fun h => by omega, fun h => by omega⟩⟩
  case round =>
    clear tb hw0
    obtain ⟨wq, rfl⟩ : ∃ wq : World, wq = wr := ⟨_, rfl⟩
    obtain ⟨k, hk, rfl, hw0, tb, hcs⟩ := hrel
    unfold bkO trO rtO tzO at tb
    have hk' : k = 0 ∨ k = 1 ∨ k = 2 := by omega
    rcases hk' with rfl | rfl | rfl
    {
    have hix := fun W => rx0 (.int .i64 t.r.v) (.slice a2 n2 c2) (.int .i64 t.r.t) (.int .i64 x.v) (.slice a3 n3 c3) (.int .i64 x.t) W
    have hw1 := hw0.alloc hw0.size (.cells #[.int .i64 t.r.v, .slice a2 n2 c2, .int .i64 t.r.t] 63)
    have tb1 := hide (tb.out.below ((Below.refl _ _).alloc (Nat.le_refl _) (.cells #[.int .i64 t.r.v, .slice a2 n2 c2, .int .i64 t.r.t] 63)))
    have HDk := hide (HD.out _ t.r a2 n2 c2 nm hw1 (H2.out _ hw1))
    go_wp2_with fail
    refine (unhide HDk).mono ?_
    rintro e w5 ⟨rfl, hb⟩
    replace tb1 := hide (tb1.out.below hb)
    replace hw1 := hw1.trans (hb.mono hw1.size)
    clear hb HDk
    by_cases z5 : csE l t.r sigs nm = 0
    {
    have Z5 := hide z5
    rw [z5]
    clear z5
    go_wp2_with fail
    go_roundw
    case rel => exact ⟨1, by decide, rfl, hw1, tb1.out, ⟨fun _ => Z5.out, fun h => by omega⟩⟩
    case measure => simp [intOf]
    }
    {
    have HE := hide (HE5.out z5)
    have hq : (csE l t.r sigs nm != 0) = true := by simpa using z5
    have ZN := hide z5
    clear z5
    generalize csE l t.r sigs nm = q at *
    have y0 := blk_cell tb1.out.b3 0 _ rfl
    have fy0 := blk_free tb1.out.b3 0
    have y1 := blk_cell tb1.out.b3 1 _ rfl
    have fy1 := blk_free tb1.out.b3 1
    have y2 := blk_cell tb1.out.b3 2 _ rfl
    have fy2 := blk_free tb1.out.b3 2
    have y3 := blk_cell tb1.out.b3 3 _ rfl
    have fy3 := blk_free tb1.out.b3 3
    go_wp2_with fail
    refine bodyPost_ret (v := .tuple #[.agg #[.int .i64 0, .slice none 0 0, .int .i64 0, .int .i64 0], .int .i64 q]) (by simp [results, Tryz.results183, go_sem, y0, y1, y2, y3]) rfl ?_
    exact ⟨tAns_e HE.out ZN.out (frsh_none _), ((((hw1).setCell (by simp; omega) _).setCell (by simp; omega) _).setCell (by simp; omega) _).setCell (by simp; omega) _⟩
    }
    }
    {
    have hix := fun W => rx1 (.int .i64 t.r.v) (.slice a2 n2 c2) (.int .i64 t.r.t) (.int .i64 x.v) (.slice a3 n3 c3) (.int .i64 x.t) W
    have hw1 := hw0.alloc hw0.size (.cells #[.int .i64 x.v, .slice a3 n3 c3, .int .i64 x.t] 63)
    have tb1 := hide (tb.out.below ((Below.refl _ _).alloc (Nat.le_refl _) (.cells #[.int .i64 x.v, .slice a3 n3 c3, .int .i64 x.t] 63)))
    have HDk := hide (HD.out _ x a3 n3 c3 nm hw1 (H3.out _ hw1))
    have HE := hide (HE6.out (hcs.out.1 (by decide)))
    go_wp2_with fail
    refine (unhide HDk).mono ?_
    rintro e w5 ⟨rfl, hb⟩
    replace tb1 := hide (tb1.out.below hb)
    replace hw1 := hw1.trans (hb.mono hw1.size)
    clear hb HDk
    by_cases z5 : csE l x sigs nm = 0
    {
    have Z5 := hide z5
    rw [z5]
    clear z5
    go_wp2_with fail
    go_roundw
    case rel => exact ⟨2, by decide, rfl, hw1, tb1.out, ⟨fun _ => hcs.out.1 (by decide), fun _ => Z5.out⟩⟩
    case measure => simp [intOf]
    }
    {
    have hq : (csE l x sigs nm != 0) = true := by simpa using z5
    have ZN := hide z5
    clear z5
    generalize csE l x sigs nm = q at *
    have y0 := blk_cell tb1.out.b3 0 _ rfl
    have fy0 := blk_free tb1.out.b3 0
    have y1 := blk_cell tb1.out.b3 1 _ rfl
    have fy1 := blk_free tb1.out.b3 1
    have y2 := blk_cell tb1.out.b3 2 _ rfl
    have fy2 := blk_free tb1.out.b3 2
    have y3 := blk_cell tb1.out.b3 3 _ rfl
    have fy3 := blk_free tb1.out.b3 3
    go_wp2_with fail
    refine bodyPost_ret (v := .tuple #[.agg #[.int .i64 0, .slice none 0 0, .int .i64 0, .int .i64 0], .int .i64 q]) (by simp [results, Tryz.results183, go_sem, y0, y1, y2, y3]) rfl ?_
    exact ⟨tAns_e HE.out ZN.out (frsh_none _), ((((hw1).setCell (by simp; omega) _).setCell (by simp; omega) _).setCell (by simp; omega) _).setCell (by simp; omega) _⟩
    }
    }
    {
    have HE := hide (show turnE ss l t x sigs = 0 by rw [HE6.out (hcs.out.1 (by decide))]; exact hcs.out.2 (by decide))
    have p0 := blk_cell tb.out.b2 0 _ rfl
    have p1 := blk_cell tb.out.b2 1 _ rfl
    have p2 := blk_cell tb.out.b2 2 _ rfl
    have p3 := blk_cell tb.out.b1 3 _ rfl
    go_wp2_with fail
    refine (unhide HT _ _ hw0 hn3).mono ?_
    rintro e w5 ⟨rfl, hbi, hb⟩
    have tb0 := tb
    replace tb := hide (tb.out.below hb)
    clear p0 p1 p2 p3
    have y0 := blk_cell tb.out.b3 0 _ rfl
    have fy0 := blk_free tb.out.b3 0
    have y1 := blk_cell tb.out.b3 1 _ rfl
    have fy1 := blk_free tb.out.b3 1
    have y2 := blk_cell tb.out.b3 2 _ rfl
    have fy2 := blk_free tb.out.b3 2
    have y3 := blk_cell tb.out.b3 3 _ rfl
    have fy3 := blk_free tb.out.b3 3
    go_wp2_with fail
    refine bodyPost_ret (v := .tuple #[.agg #[.int .i64 x.v, .slice (some ⟨wq.heap.size + 2, 0, none⟩) n3 n3, .int .i64 x.t, .int .i64 t.ver], .int .i64 0]) (by simp [results, Tryz.results183, go_sem, y0, y1, y2, y3]) rfl ?_
    rw [HE.out]
    refine ⟨⟨_, _, _, rfl, ?_, fun ad e => by cases e; exact Nat.le_trans hw0.size (by simp)⟩, (((((hw0.trans (hb.mono hw0.size))).setCell (by simp; omega) _).setCell (by simp; omega) _).setCell (by simp; omega) _).setCell (by simp; omega) _⟩
    have hlt := blk_lt tb0.out.b3
    exact (((hbi.set _ 0 _ (by omega)).set _ 1 _ (by omega)).set _ 2 _ (by omega)).set _ 3 _ (by omega)

    }
end Go.Proofs.YtgngpmgjoifepaaGreatDoor
