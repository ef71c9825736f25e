/- The ref's CheckSigned, CheckTrust, Counted (its two sets are maps of the call's own). The contract of the reference's CheckGate. -/
import Derived.Test.YtgngpmgjoifepaaGreatDoorPt18
import Derived.Test.YtgngpmgjoifepaaGreatDoorPt28
import Derived.Maps.OwnSet
import Derived.Maps.Views
import Derived.Test.YtgngpmgjoifepaaGreatDoorPt12
namespace Go.Proofs.YtgngpmgjoifepaaGreatDoor
open Go.RowKit Go.Maps

set_option maxHeartbeats 800000 in
set_option maxRecDepth 100000 in
theorem refCheckSigned_any (a : Option Addr) (n c : Nat) (l : List S2) (w : World) (h : BG w a n l) :
    Calls Tryz.prog 192 #[.slice a n c] w fun e w' => e = .returned (.int .i64 (sigE l)) ∧ Below w.heap.size w w' := by
  obtain ⟨h, hn, hm⟩ := h
  unfold maxLen at hm
  have HN := hide hn
  by_cases h1 : 360 < n
  {
  have HE := hide (sigE_many (l := l) (by omega))
  clear hn
  go_enter Tryz.func192, Tryz.ntmps192
  go_wp2_with fail
  go_ret
  exact ⟨ret_int HE.out.symm, Below.refl _ _⟩
  }
  {
  have hle := hide (show l.length ≤ 360 by omega)
  clear hn
  go_enter Tryz.func192, Tryz.ntmps192
  go_wp2_with fail
  go_loopw [10] (fun i wr => ∃ k : Nat, k ≤ n ∧ i = .int .i64 k ∧ Below w.heap.size w wr ∧ Hid ((l.take k).all sOK = true)) (fun i _ => n - (intOf i).toNat)
  case atStart => exact ⟨0, Nat.zero_le _, rfl, Below.refl _ _, by show _ = _; simp⟩
  case round =>
    obtain ⟨wq, rfl⟩ : ∃ wq : World, wq = wr := ⟨_, rfl⟩
    obtain ⟨k, hk, rfl, hw, ht⟩ := hrel
    by_cases hlt : k < n
    {
    have i1 := h.below hw
    rcases i1 with rfl | ⟨b0, o0, rfl, hc0⟩
    {
    have := HN.out
    simp at this
    omega
    }
    have hkx : k < l.length := by rw [HN.out]; exact hlt
    obtain ⟨e0, e1⟩ := hc0 k l[k] (List.getElem?_eq_getElem hkx)
    clear hc0
    have hw1 := hw.alloc hw.size (.cells #[.int .i64 l[k].1, .int .i64 l[k].2] 188)
    have HB := hide (sigE_bad hle.out hkx)
    have HX := hide (sOK_step hkx ht.out)
    generalize l[k] = s at *
    by_cases g1 : s.1 < 1
    {
    have HV := hide (HB.out (by unfold sOK; rw [inR_lo (by omega)]; rfl))
    go_wp2_with fail
    go_ret
    exact ⟨ret_int HV.out.symm, hw1⟩
    }
    by_cases g2 : 50 < s.1
    {
    have HV := hide (HB.out (by unfold sOK; rw [inR_hi (by omega)]; rfl))
    go_wp2_with fail
    go_ret
    exact ⟨ret_int HV.out.symm, hw1⟩
    }
    by_cases g3 : s.2 < 1
    {
    have HV := hide (HB.out (by unfold sOK; rw [inR_lo (a := 1) (n := s.2) (by omega)]; simp))
    go_wp2_with fail
    go_ret
    exact ⟨ret_int HV.out.symm, hw1⟩
    }
    by_cases g4 : 60 < s.2
    {
    have HV := hide (HB.out (by unfold sOK; rw [inR_hi (n := s.2) (by omega)]; simp))
    go_wp2_with fail
    go_ret
    exact ⟨ret_int HV.out.symm, hw1⟩
    }
    have HV := hide (HX.out (by unfold sOK; rw [inR_t (by omega) (by omega), inR_t (by omega) (by omega)]; rfl))
    go_wp2_with fail
    go_roundw
    case rel => exact ⟨k + 1, by omega, by go_num, hw1, HV.out⟩
    case measure => simp [intOf]; omega
    }
    {
    go_wp2_with fail
    go_ret
    have hx := ht.out
    rw [List.take_of_length_le (by rw [HN.out]; omega)] at hx
    exact ⟨ret_int (sigE_ok hle.out hx).symm, hw⟩

    }
  }
set_option maxHeartbeats 800000 in
set_option maxRecDepth 100000 in
theorem refCheckTrust_any (t : Tr) (a : Option Addr) (n c : Nat) (w : World) (h : BI w a n t.r.ks) :
    Calls Tryz.prog 90 #[trv t.r.v a n c t.r.t t.ver] w fun e w' => e = .returned (.int .i64 (trE t)) ∧ Below w.heap.size w w' := by
  have hw0 : Below w.heap.size w (w.alloc (.cells #[.int .i64 t.r.v, .slice a n c, .int .i64 t.r.t, .int .i64 t.ver] 65)) := (Below.refl _ _).alloc (Nat.le_refl _) _
  have i0 := h.below hw0
  have HK := hide (fun W (hW : BI W a n t.r.ks) => refCheckRoot_any t.r.v a n c t.r.t t.r.ks W hW.at_ hW.len hW.max)
  unfold rv at HK
  unfold trv
  by_cases h1 : t.ver < 0
  {
  have HE := hide (trE_bad (t := t) (inR_lo (by omega)))
  go_enter Tryz.func90, Tryz.ntmps90
  go_wp2_with fail
  go_ret
  exact ⟨ret_int HE.out.symm, hw0⟩
  }
  by_cases h2 : 1000 < t.ver
  {
  have HE := hide (trE_bad (t := t) (inR_hi (by omega)))
  go_enter Tryz.func90, Tryz.ntmps90
  go_wp2_with fail
  go_ret
  exact ⟨ret_int HE.out.symm, hw0⟩
  }
  have HE := hide (trE_go (t := t) (inR_t (by omega) (by omega)))
  go_enter Tryz.func90, Tryz.ntmps90
  go_wp2_with (go_at_call 39; refine (HK.out _ i0).mono ?_; rintro e w1 ⟨rfl, hb1⟩)
  go_ret
  exact ⟨ret_int HE.out.symm, hw0.trans (hb1.mono hw0.size)⟩

/-! ### A set of ints as a map -/
theorem lawI : Keyed Tryz.prog 3 := int_keyed Tryz.underlying3
set_option maxRecDepth 100000 in
theorem zeroB (w : World) : (zeroValue 4).run Tryz.prog w = .ok (.bool false) w := by kernel_rfl

def WfI (k : Int) : Prop := (Lit.int .i64 k).wf = true
def SetM (w : World) (b n : Nat) (S : List Int) : Prop :=
  ∃ D : DataW Unit, w.ownsMap Tryz.prog 3 (plainElem Tryz.prog 4) b n D ∧ ∀ k, WfI k → D.atKey (.int .i64 k) (.lit (.bool false)) = .lit (.bool (has S k))

theorem setM_made (w : World) : SetM (w.alloc (.map #[] 0)) w.heap.size 0 [] := ⟨.map [], World.ownsMap_made _ _ _ _, fun _ _ => rfl⟩
theorem SetM.below {w w' : World} {b n : Nat} {S : List Int} (h : SetM w b n S) (hb : Below w.heap.size w w') : SetM w' b n S := by
  obtain ⟨D, h1, h2⟩ := h
  exact ⟨D, h1.kept (row := none) ⟨hb.os, hb.tape, hb.output, hb.size, fun k hk _ => hb.block k hk⟩ (by simp), h2⟩
theorem SetM.kept {w w' : World} {b n g : Nat} {S : List Int} (h : SetM w b n S) (hg : w.grownBy w' (some g)) (hne : b ≠ g) : SetM w' b n S := by
  obtain ⟨D, h1, h2⟩ := h
  exact ⟨D, h1.kept hg (fun e => hne (by cases e; rfl)), h2⟩
theorem SetM.lt {w : World} {b n : Nat} {S : List Int} (h : SetM w b n S) : b < w.heap.size := by
  obtain ⟨D, h1, _⟩ := h
  exact h1.lt
theorem SetM.mono {w : World} {b n m : Nat} {S : List Int} (h : SetM w b n S) (hn : n ≤ m) : SetM w b m S := by
  obtain ⟨D, h1, h2⟩ := h
  exact ⟨D, h1.mono hn, h2⟩
set_option maxRecDepth 100000 in
theorem SetM.look {w : World} {b n : Nat} {S : List Int} (h : SetM w b n S) {k : Int} (hk : WfI k) : (Instr.lookup 249 (.map (some b)) (.int .i64 k) false).run Tryz.prog w = .ok (.bool (has S k)) w := by
  obtain ⟨D, h1, h2⟩ := h
  obtain ⟨v, ps, hrun, hv⟩ := h1.lookup lawI Tryz.underlying249 (zeroB w) (plainElem_bool Tryz.underlying4 false) (keyOf_int_mk Tryz.underlying3 hk)
  rw [h2 k hk] at hv
  rw [hrun]
  unfold plainElem at hv
  rw [Tryz.underlying4] at hv
  cases v <;> simp at hv
  rw [hv.1]
set_option maxRecDepth 100000 in
theorem SetM.put {w : World} {b n : Nat} {S : List Int} {D : DataW Unit} {k : Int} (hD : IsMap D) (h2 : ∀ k, WfI k → D.atKey (.int .i64 k) (.lit (.bool false)) = .lit (.bool (has S k))) (h : w.ownsMap Tryz.prog 3 (plainElem Tryz.prog 4) b n (D.put (.int .i64 k) (.lit (.bool true)))) : SetM w b n (S ++ [k]) := by
  refine ⟨_, h, fun x hx => ?_⟩
  by_cases e : x = k
  {
  subst e
  rw [atKey_put_same hD (by trivial), show has (S ++ [x]) x = true by unfold Proofs.YtgngpmgjoifepaaGreatDoor.has; simp]
  }
  {
  rw [atKey_put_other (by simpa using e), h2 x hx]
  congr 2
  unfold Proofs.YtgngpmgjoifepaaGreatDoor.has
  simp [e]

  }
def keysOf (l : List S2) (name : Int) (k : Nat) : List Int := ((l.take k).filter fun s => decide (s.2 = name)).map (·.1)
theorem keysOf_hit {l : List S2} {name : Int} {k : Nat} (hk : k < l.length) (h : l[k].2 = name) : keysOf l name (k + 1) = keysOf l name k ++ [l[k].1] := by
  unfold keysOf
  rw [List.take_succ_eq_append_getElem hk, List.filter_append, List.map_append]
  simp [h]
theorem keysOf_miss {l : List S2} {name : Int} {k : Nat} (hk : k < l.length) (h : ¬ l[k].2 = name) : keysOf l name (k + 1) = keysOf l name k := by
  unfold keysOf
  rw [List.take_succ_eq_append_getElem hk, List.filter_append, List.map_append]
  simp [h]
theorem keysOf_has {l : List S2} {name : Int} {k : Nat} (hk : l.length ≤ k) (x : Int) : has (keysOf l name k) x = has l (x, name) := by
  unfold Proofs.YtgngpmgjoifepaaGreatDoor.has keysOf
  rw [List.take_of_length_le hk]
  congr 1
  simp only [List.mem_map, List.mem_filter, decide_eq_true_eq, eq_iff_iff]
  constructor
  {
  rintro ⟨s, ⟨h1, h2⟩, rfl⟩
  rw [← h2]
  exact h1
  }
  {
  intro h
  exact ⟨(x, name), ⟨h, rfl⟩, rfl⟩
  }
theorem wf_small {k : Int} (h0 : 0 ≤ k) (h1 : k ≤ 100000) : WfI k := WalkArith.wf_i64 (by omega)
theorem sigE_get {l : List S2} (h : sigE l = 0) {k : Nat} (hk : k < l.length) : 1 ≤ l[k].1 ∧ l[k].1 ≤ 50 := by
  unfold sigE at h
  split at h
  { cases h }
  {
  split at h
  {
  rename_i h2
  have := List.all_eq_true.1 h2 l[k] (List.getElem_mem hk)
  unfold sOK at this
  rw [Bool.and_eq_true, inR_iff] at this
  exact this.1
  }
  {
  cases h

  }
  }
set_option maxHeartbeats 3200000 in
set_option maxRecDepth 100000 in
theorem refCounted_any (a1 : Option Addr) (n1 c1 : Nat) (l : List S2) (r : Rt) (a2 : Option Addr) (n2 c2 : Nat) (a3 : Option Addr) (n3 c3 : Nat) (sigs : List Int) (name : Int) (w : World) (h1 : BG w a1 n1 l) (h2 : BI w a2 n2 r.ks) (h3 : BI w a3 n3 sigs) (hwf : ∀ k ∈ sigs, WfI k) :
    Calls Tryz.prog 150 #[.slice a1 n1 c1, rv r.v a2 n2 c2 r.t, .slice a3 n3 c3, .int .i64 name] w fun e w' => e = .returned (.tuple #[.int .i64 (cntV l r sigs name), .int .i64 (cntE l r sigs)]) ∧ Below w.heap.size w w' := by
  have hw0 : Below w.heap.size w (w.alloc (.cells #[.int .i64 r.v, .slice a2 n2 c2, .int .i64 r.t] 63)) := (Below.refl _ _).alloc (Nat.le_refl _) _
  have b0 := hide (heap_alloc_last w (.cells #[.int .i64 r.v, .slice a2 n2 c2, .int .i64 r.t] 63))
  have HS := hide (fun W (hW : Below w.heap.size w W) => refCheckSigned_any a1 n1 c1 l W (h1.below hW))
  have HR : Hid (∀ W, Below w.heap.size w W → Calls Tryz.prog 39 #[rv r.v a2 n2 c2 r.t] W fun e w' => e = .returned (.int .i64 r.e) ∧ Below W.heap.size W w') := fun W hW => refCheckRoot_any r.v a2 n2 c2 r.t r.ks W (h2.below hW).at_ h2.len h2.max
  have HI1 := hide h1.at_
  have HI2 := hide h2.at_
  have HI3 := hide h3.at_
  have HL1 := hide h1.len
  have HL2 := hide h2.len
  have HL3 := hide h3.len
  have HWF := hide hwf
  have m1 := h1.max
  have m2 := h2.max
  have m3 := h3.max
  unfold maxLen at m1 m2 m3
  unfold rv at HR ⊢
  clear h1 h2 h3 hwf
  by_cases z1 : sigE l = 0
  rotate_left
  {
  have HE := hide (cntE_1 (r := r) (sigs := sigs) z1)
  have HV := hide (cntV_1 (name := name) (r := r) (sigs := sigs) (by rw [HE.out]; exact z1))
  have hb : (sigE l != 0) = true := by simpa using z1
  clear z1
  generalize sigE l = q at *
  go_enter Tryz.func150, Tryz.ntmps150
  go_wp2_with fail
  generalize w.alloc (.cells #[.int .i64 r.v, .slice a2 n2 c2, .int .i64 r.t] 63) = W at *
  refine (unhide HS _ hw0).mono ?_
  rintro e w1 ⟨rfl, hb1⟩
  replace hw0 := hw0.trans (hb1.mono hw0.size)
  go_wp2_with fail
  go_ret2
  exact ⟨ret_ints HV.out.symm HE.out.symm, hw0⟩
  }
  have HK1 := hide (fun k (hk : k < l.length) => sigE_get z1 hk)
  rw [z1] at HS
  by_cases z2 : r.e = 0
  rotate_left
  {
  have HE := hide (cntE_2 (sigs := sigs) z1 z2)
  have HV := hide (cntV_1 (name := name) (sigs := sigs) (by rw [HE.out]; exact z2))
  have hb : (r.e != 0) = true := by simpa using z2
  clear z1 z2
  generalize r.e = q at *
  go_enter Tryz.func150, Tryz.ntmps150
  go_wp2_with fail
  generalize w.alloc (.cells #[.int .i64 r.v, .slice a2 n2 c2, .int .i64 r.t] 63) = W at *
  refine (unhide HS _ hw0).mono ?_
  rintro e w1 ⟨rfl, hb1⟩
  replace b0 := hide (blk_below b0.out hb1)
  replace hw0 := hw0.trans (hb1.mono hw0.size)
  clear hb1
  have x0 := blk_cell b0.out 0 _ rfl
  have x1 := blk_cell b0.out 1 _ rfl
  have x2 := blk_cell b0.out 2 _ rfl
  go_wp2_with fail
  refine (unhide HR _ hw0).mono ?_
  rintro e w2 ⟨rfl, hb2⟩
  replace hw0 := hw0.trans (hb2.mono hw0.size)
  go_wp2_with fail
  go_ret2
  exact ⟨ret_ints HV.out.symm HE.out.symm, hw0⟩
  }
  have HK2 := hide (fun k hk => keys_in (rootE_ok z2).2.2.2.2 k hk)
  rw [z2] at HR
  by_cases z3 : 50 < n3
  {
  have HE := hide (cntE_3 z1 z2 (sigs := sigs) (by rw [HL3.out]; exact z3))
  have HV := hide (cntV_1 (name := name) (by rw [HE.out]; decide))
  clear z1 z2
  go_enter Tryz.func150, Tryz.ntmps150
  go_wp2_with fail
  generalize w.alloc (.cells #[.int .i64 r.v, .slice a2 n2 c2, .int .i64 r.t] 63) = W at *
  refine (unhide HS _ hw0).mono ?_
  rintro e w1 ⟨rfl, hb1⟩
  replace b0 := hide (blk_below b0.out hb1)
  replace hw0 := hw0.trans (hb1.mono hw0.size)
  clear hb1
  have x0 := blk_cell b0.out 0 _ rfl
  have x1 := blk_cell b0.out 1 _ rfl
  have x2 := blk_cell b0.out 2 _ rfl
  go_wp2_with fail
  refine (unhide HR _ hw0).mono ?_
  rintro e w2 ⟨rfl, hb2⟩
  replace hw0 := hw0.trans (hb2.mono hw0.size)
  go_wp2_with fail
  go_ret2
  exact ⟨ret_ints HV.out.symm HE.out.symm, hw0⟩
  }
  have HE := hide (cntE_0 z1 z2 (sigs := sigs) (by rw [HL3.out]; exact z3))
  have HV := hide (cntV_0 (name := name) HE.out)
  clear z1 z2
  have hmm := @run_makeMap Tryz.prog
  go_enter Tryz.func150, Tryz.ntmps150
  go_wp2_with fail
  generalize w.alloc (.cells #[.int .i64 r.v, .slice a2 n2 c2, .int .i64 r.t] 63) = W at *
  refine (unhide HS _ hw0).mono ?_
  rintro e w1 ⟨rfl, hb1⟩
  replace b0 := hide (blk_below b0.out hb1)
  replace hw0 := hw0.trans (hb1.mono hw0.size)
  clear hb1
  have x0 := blk_cell b0.out 0 _ rfl
  have x1 := blk_cell b0.out 1 _ rfl
  have x2 := blk_cell b0.out 2 _ rfl
  go_wp2_with fail
  refine (unhide HR _ hw0).mono ?_
  rintro e w2 ⟨rfl, hb2⟩
  replace b0 := hide (blk_below b0.out hb2)
  replace hw0 := hw0.trans (hb2.mono hw0.size)
  clear hb2 x0 x1 x2
  go_wp2_with fail
  have hM := hide (setM_made w2)
  have hwM := hw0.alloc hw0.size (.map #[] 0)
  have bM := hide (blk_alloc b0.out (.map #[] 0))
  have hBM := hw0.size
  obtain ⟨M, hMe⟩ : ∃ M, M = w2.heap.size := ⟨_, rfl⟩
  rw [← hMe] at hM hBM ⊢
  have ltM : w.heap.size < M := by rw [hMe]; exact blk_lt b0.out
  clear hMe hw0 b0 hBM
  generalize w2.alloc (.map #[] 0) = W2 at *
  go_loopw [37] (fun i wr => ∃ k : Nat, k ≤ n1 ∧ i = .int .i64 k ∧ Below w.heap.size w wr ∧ Hid (wr.heap[w.heap.size]? = some (.cells #[.int .i64 r.v, .slice a2 n2 c2, .int .i64 r.t] 63 (0, 0))) ∧ Hid (SetM wr M k (keysOf l name k))) (fun i _ => n1 - (intOf i).toNat)
  case atStart => exact ⟨0, Nat.zero_le _, rfl, hwM, bM, hM⟩
  case round =>
    clear hwM bM hM
    obtain ⟨wq, rfl⟩ : ∃ wq : World, wq = wr := ⟨_, rfl⟩
    obtain ⟨k, hk, rfl, hw, bR, hS⟩ := hrel
    by_cases hlt : k < n1
    {
    have hkx : k < l.length := by rw [HL1.out]; exact hlt
    have i1 := HI1.out.below hw
    rcases i1 with h0 | ⟨bb, oo, rfl, hc0⟩
    { rw [h0] at hkx; simp at hkx }
    obtain ⟨e0, e1⟩ := hc0 k l[k] (List.getElem?_eq_getElem hkx)
    have KH := hide (keysOf_hit (name := name) hkx)
    have KM := hide (keysOf_miss (name := name) hkx)
    have hkb := HK1.out k hkx
    clear hc0
    generalize l[k] = s at *
    have hbA : Below wq.heap.size wq (wq.alloc (.cells #[.int .i64 s.1, .int .i64 s.2] 188)) := (Below.refl _ _).alloc (Nat.le_refl _) _
    have hwA := hw.trans (hbA.mono hw.size)
    have bA := hide (blk_below bR.out hbA)
    have sA := hide (hS.out.below hbA)
    have bS := hide (heap_alloc_last wq (.cells #[.int .i64 s.1, .int .i64 s.2] 188))
    have hlm : M < wq.heap.size := hS.out.lt
    by_cases z : s.2 = name
    {
    have K5 := hide (KH.out z)
    obtain ⟨D, hown, hat⟩ := sA.out
    have HO := hide hown
    have HAt := hide hat
    have hkey := keyOf_int_mk (P := Tryz.prog) (k := 3) Tryz.underlying3 (wf_small (k := s.1) (by omega) (by omega))
    have HKy := hide hkey
    have d1 : (s.2 == name) = true := by simpa using z
    clear z hown hat hkey hkb
    go_wp2_with (at_mapUpdate; refine wpList_mapUpdate_own _ rfl _ _ _ 249 rfl 3 4 lawI Tryz.underlying249 _ M k _ rfl HO.out (by unfold maxLen; omega) _ _ _ rfl rfl HKy.out _ [] (plainElem_bool Tryz.underlying4 true) ?_)
    intro w5 hown5 hg5
    have S5 := hide (SetM.put HO.out.isMap HAt.out hown5)
    rw [← K5.out] at S5
    have hw5 : Below w.heap.size w w5 := hwA.grown hg5 hwA.size (fun j e => by cases e; omega)
    have b5 := (hg5.block w.heap.size (blk_lt bA.out) (fun e => by cases e; omega)).trans bA.out
    have B5 := hide b5
    clear hown5 hg5 b5
    go_wp2_with fail
    go_roundw
    case rel => exact ⟨k + 1, by omega, by go_num, hw5, B5, S5⟩
    case measure => simp [intOf]; omega
    }
    {
    have K5 := hide (KM.out z)
    have d1 : (s.2 == name) = false := by simpa using z
    clear z
    go_wp2_with fail
    go_roundw
    case rel => exact ⟨k + 1, by omega, by go_num, hwA, bA, by show SetM _ _ _ _; rw [K5.out]; exact sA.out.mono (by omega)⟩
    case measure => simp [intOf]; omega
    }
    }
    {
    have hkl : l.length ≤ k := by rw [HL1.out]; omega
    have KA := hide (fun x => keysOf_has (name := name) hkl x)
    generalize keysOf l name k = S1 at *
    go_wp2_with fail
    have hM2 := hide (setM_made wq)
    have hbA : Below wq.heap.size wq (wq.alloc (.map #[] 0)) := (Below.refl _ _).alloc (Nat.le_refl _) _
    have hwA := hw.trans (hbA.mono hw.size)
    have bA := hide (blk_below bR.out hbA)
    have sA := hide (hS.out.below hbA)
    obtain ⟨M2, hMe⟩ : ∃ M2, M2 = wq.heap.size := ⟨_, rfl⟩
    rw [← hMe] at hM2 ⊢
    have ltM2 : M < M2 := by rw [hMe]; exact hS.out.lt
    clear hMe hw bR hS hbA
    generalize wq.alloc (.map #[] 0) = W3 at *
    go_loopw [52] (fun i wr => ∃ j : Nat, j ≤ n3 ∧ i = .int .i64 j ∧ Below w.heap.size w wr ∧ Hid (wr.heap[w.heap.size]? = some (.cells #[.int .i64 r.v, .slice a2 n2 c2, .int .i64 r.t] 63 (0, 0))) ∧ Hid (SetM wr M k S1) ∧ Hid (SetM wr M2 j (sigs.take j))) (fun i _ => n3 - (intOf i).toNat)
    case atStart => exact ⟨0, Nat.zero_le _, rfl, hwA, bA, sA, by show SetM _ _ _ _; simpa using hM2.out⟩
    case round =>
      clear hwA bA sA hM2
      obtain ⟨wp, rfl⟩ : ∃ wp : World, wp = wr := ⟨_, rfl⟩
      obtain ⟨j, hj, rfl, hw, bR, hS, hT⟩ := hrel
      by_cases hlt3 : j < n3
      {
      have hjx : j < sigs.length := by rw [HL3.out]; exact hlt3
      have i1 := HI3.out.below hw
      rcases i1 with h0 | ⟨bb, oo, rfl, hc0⟩
      { rw [h0] at hjx; simp at hjx }
      have e0 := hc0 j hjx
      rw [show sigs.getD j 0 = sigs[j] by simp [hjx]] at e0
      have K5 := hide (List.take_succ_eq_append_getElem hjx)
      have hky := HWF.out sigs[j] (List.getElem_mem hjx)
      clear hc0
      generalize sigs[j] = y at *
      obtain ⟨D, hown, hat⟩ := hT.out
      have HO := hide hown
      have HAt := hide hat
      have HKy := hide (keyOf_int_mk (P := Tryz.prog) (k := 3) Tryz.underlying3 hky)
      clear hown hat hky
      go_wp2_with (at_mapUpdate; refine wpList_mapUpdate_own _ rfl _ _ _ 249 rfl 3 4 lawI Tryz.underlying249 _ M2 j _ rfl HO.out (by unfold maxLen; omega) _ _ _ rfl rfl HKy.out _ [] (plainElem_bool Tryz.underlying4 true) ?_)
      intro w5 hown5 hg5
      have S5 := hide (SetM.put HO.out.isMap HAt.out hown5)
      rw [← K5.out] at S5
      have T5 := hide (hS.out.kept hg5 (by omega))
      have hw5 : Below w.heap.size w w5 := hw.grown hg5 hw.size (fun j e => by cases e; omega)
      have b5 := (hg5.block w.heap.size (blk_lt bR.out) (fun e => by cases e; omega)).trans bR.out
      have B5 := hide b5
      clear hown5 hg5 b5
      go_wp2_with fail
      go_roundw
      case rel => exact ⟨j + 1, by omega, by go_num, hw5, B5, T5, S5⟩
      case measure => simp [intOf]; omega
      }
      {
      have hT2 := hT.out
      rw [List.take_of_length_le (by rw [HL3.out]; omega)] at hT2
      have HT2 := hide hT2
      clear hT2 hT
      have x1 := blk_cell bR.out 1 _ rfl
      go_wp2_with fail
      go_loopw [18, 62] (fun p i wr => ∃ (m q : Nat), m ≤ n2 ∧ q ≤ m ∧ p = .int .i64 (q : Int) ∧ i = .int .i64 m ∧ wr = wp ∧ Hid (q = cntN l (r.ks.take m) sigs name)) (fun _ i _ => n2 - (intOf i).toNat)
      case atStart => exact ⟨0, 0, Nat.zero_le _, Nat.le_refl _, rfl, rfl, rfl, by show _ = _; simp [cntN]⟩
      case round =>
        obtain ⟨m, q, hm, hqm, rfl, rfl, rfl, ht⟩ := hrel
        by_cases hlt2 : m < n2
        {
        have hmx : m < r.ks.length := by rw [HL2.out]; exact hlt2
        have i1 := HI2.out.below hw
        rcases i1 with h0 | ⟨bb, oo, rfl, hc0⟩
        { rw [h0] at hmx; simp at hmx }
        have e0 := hc0 m hmx
        rw [show r.ks.getD m 0 = r.ks[m] by simp [hmx]] at e0
        have HQ := hide (cntN_step (l := l) (sigs := sigs) (name := name) hmx)
        have hkb := HK2.out _ (List.getElem_mem hmx)
        clear hc0
        generalize r.ks[m] = x at *
        have lk1 := hS.out.look (wf_small (k := x) (by omega) (by omega))
        have lk2 := HT2.out.look (wf_small (k := x) (by omega) (by omega))
        rw [KA.out] at lk1
        clear hkb
        cases g1 : has l (x, name)
        {
        rw [g1] at lk1
        have HQ' := hide (show cntN l (r.ks.take (m + 1)) sigs name = q by rw [HQ.out, ← ht.out]; simp [hit, g1])
        clear g1
        go_wp2_with fail
        go_roundw
        case rel => exact ⟨m + 1, q, by omega, by omega, rfl, by go_num, trivial, HQ'.out.symm⟩
        case measure => simp [intOf]; omega
        }
        {
        rw [g1] at lk1
        cases g2 : has sigs x
        {
        rw [g2] at lk2
        have HQ' := hide (show cntN l (r.ks.take (m + 1)) sigs name = q by rw [HQ.out, ← ht.out]; simp [hit, g2])
        clear g1 g2
        go_wp2_with fail
        go_roundw
        case rel => exact ⟨m + 1, q, by omega, by omega, rfl, by go_num, trivial, HQ'.out.symm⟩
        case measure => simp [intOf]; omega
        }
        {
        rw [g2] at lk2
        have HQ' := hide (show cntN l (r.ks.take (m + 1)) sigs name = q + 1 by rw [HQ.out, ← ht.out]; simp only [hit, g1, g2]; rfl)
        clear g1 g2
        go_wp2_with fail
        go_roundw
        case rel => exact ⟨m + 1, q + 1, by omega, by omega, by go_num, by go_num, trivial, HQ'.out.symm⟩
        case measure => simp [intOf]; omega
        }
        }
        }
        {
        go_wp2_with fail
        go_ret2
        have hx := ht.out
        rw [List.take_of_length_le (by rw [HL2.out]; omega)] at hx
        exact ⟨ret_ints (by rw [HV.out, ← hx]) HE.out.symm, hw⟩

        }
      }
    }
end Go.Proofs.YtgngpmgjoifepaaGreatDoor

namespace Go.Proofs.YtgngpmgjoifepaaGreatDoor
open Go.RowKit
attribute [local go_sem ↓] Go.wp_at_zero Go.wp_at_succ

set_option maxRecDepth 100000 in
set_option maxHeartbeats 3200000 in
theorem refCheckGate_any (g : Gt) (k0 : GA) (w : World) (h : GIn w k0 g) :
    Calls Tryz.prog 35 #[gtv g k0] w fun e w' => e = .returned (.int .i64 (gtE g)) ∧ Below w.heap.size w w' := by
  have hw : Below w.heap.size w (w.alloc (.cells #[.slice k0.a k0.n k0.c, .int .i64 g.fu, .bool g.up, .int .i64 g.t.r.v, .slice k0.ak k0.nk k0.ck, .int .i64 g.t.r.t, .int .i64 g.t.ver, .slice k0.av k0.nv k0.cv, .slice k0.ad k0.nd k0.cd] 68)) := below_new (Below.refl _ _) _
  have b0 := hide (heap_alloc_last w (.cells #[.slice k0.a k0.n k0.c, .int .i64 g.fu, .bool g.up, .int .i64 g.t.r.v, .slice k0.ak k0.nk k0.ck, .int .i64 g.t.r.t, .int .i64 g.t.ver, .slice k0.av k0.nv k0.cv, .slice k0.ad k0.nd k0.cd] 68))
  have HL := hide (fun W (hW : Below w.heap.size w W) => refCheckLog_any k0.a k0.n k0.c g.ws g.fu W (h.ws.below hW).at_ h.ws.len h.ws.max)
  have HT := hide (fun W (hW : Below w.heap.size w W) => refCheckTrust_any g.t k0.ak k0.nk k0.ck W (h.ks.below hW))
  have hv := h.vo.len
  have hd := h.di.len
  have E1 := hide (fun h => gtE_1 (g := g) h)
  have E2 := hide (fun h h2 => gtE_2 (g := g) h h2)
  have E3 := hide (fun h h2 => gtE_3 (g := g) h h2)
  have HB : Hid (gtB g = (inB k0.nv 1 4 && decide (k0.nd = k0.nv))) := by show _ = _; unfold gtB; rw [hv, hd]
  clear h hv hd
  unfold trv at HT
  unfold gtv
  have x0 := blk_cell b0.out 0 _ rfl
  have x1 := blk_cell b0.out 1 _ rfl
  go_enter Tryz.func35, Tryz.ntmps35
  go_wp2_with fail
  generalize (w.alloc (.cells #[.slice k0.a k0.n k0.c, .int .i64 g.fu, .bool g.up, .int .i64 g.t.r.v, .slice k0.ak k0.nk k0.ck, .int .i64 g.t.r.t, .int .i64 g.t.ver, .slice k0.av k0.nv k0.cv, .slice k0.ad k0.nd k0.cd] 68)) = W at *
  refine (unhide HL _ hw).mono ?_
  rintro e w1 ⟨rfl, hb⟩
  replace b0 := hide (blk_below b0.out hb)
  replace hw := hw.trans (hb.mono hw.size)
  clear hb HL x0 x1
  by_cases z1 : lchk g.ws g.fu = 0
  rotate_left
  {
  have HE := hide (E1.out z1)
  have d : (lchk g.ws g.fu != 0) = true := by simpa using z1
  clear z1 E1 E2 E3 HT
  generalize lchk g.ws g.fu = q at *
  go_wp2_with fail
  go_ret
  exact ⟨congrArg (fun x => Ending.returned (.int .i64 x)) HE.out.symm, hw⟩
  }
  rw [z1]
  replace E2 := hide (E2.out z1)
  replace E3 := hide (E3.out z1)
  clear z1 E1
  have x7 := blk_cell b0.out 7 _ rfl
  have x8 := blk_cell b0.out 8 _ rfl
  by_cases z2 : 1 ≤ k0.nv
  rotate_left
  {
  have HE := hide (E2.out (by rw [HB.out]; unfold inB; simp; omega))
  have f1 : (k0.nv : Int) < 1 := by omega
  clear E2 E3 HT HB
  go_wp2_with fail
  go_ret
  exact ⟨congrArg (fun x => Ending.returned (.int .i64 x)) HE.out.symm, hw⟩
  }
  have f1 : ¬ (k0.nv : Int) < 1 := by omega
  by_cases z3 : k0.nv ≤ 4
  rotate_left
  {
  have HE := hide (E2.out (by rw [HB.out]; unfold inB; simp; omega))
  have f2 : (4 : Int) < (k0.nv : Int) := by omega
  clear E2 E3 HT HB
  go_wp2_with fail
  go_ret
  exact ⟨congrArg (fun x => Ending.returned (.int .i64 x)) HE.out.symm, hw⟩
  }
  have f2 : ¬ (4 : Int) < (k0.nv : Int) := by omega
  by_cases z4 : k0.nd = k0.nv
  rotate_left
  {
  have HE := hide (E2.out (by rw [HB.out]; simp [z4]))
  have f3 : ((k0.nd : Int) != (k0.nv : Int)) = true := by simp; omega
  clear E2 E3 HT HB
  go_wp2_with fail
  go_ret
  exact ⟨congrArg (fun x => Ending.returned (.int .i64 x)) HE.out.symm, hw⟩
  }
  have f3 : ((k0.nd : Int) != (k0.nv : Int)) = false := by simp; omega
  have HE := hide (E3.out (by rw [HB.out]; unfold inB; simp; omega))
  clear E2 E3 HB z2 z3 z4
  go_upto_region 7 with fail
  clear x7 x8 f1 f2 f3
  have x3 := blk_cell b0.out 3 _ rfl
  have x4 := blk_cell b0.out 4 _ rfl
  have x5 := blk_cell b0.out 5 _ rfl
  have x6 := blk_cell b0.out 6 _ rfl
  go_wp2_with fail
  refine (unhide HT _ hw).mono ?_
  rintro e w2 ⟨rfl, hb⟩
  go_wp2_with fail
  go_ret
  exact ⟨congrArg (fun x => Ending.returned (.int .i64 x)) HE.out.symm, hw.trans (hb.mono hw.size)⟩

end Go.Proofs.YtgngpmgjoifepaaGreatDoor
