/- Lists of changes that erase, and that program. The contract of wainwrightref.Programmed: the document's Program, of right flash. Plain facts: lists of changes one behind the other, of which there is power for so many. Plain facts: what is done in turn is a list of changes, of which there is power for so many. -/
import Derived.Test.YtppmdfndcjgibabGreatDoorPk17
import Derived.Test.YtppmdfndcjgibabGreatDoorPk8
namespace Go.Proofs.YtppmdfndcjgibabGreatDoor
open Go.RowKit
attribute [local go_sem ↓] Go.wp_at_zero Go.wp_at_succ

theorem applyL_era (ws : List Int) (s k : Nat) : applyL (eraL s k) ws = chg (fun _ _ => 65535) (s * 32) k ws := by
  induction k with
  | zero => rfl
  | succ k ih =>
    rw [eraL_succ]
    have : applyL (eraL s k ++ [(32 * s + k, none)]) ws = (applyL (eraL s k) ws).set (32 * s + k) 65535 := by simp [applyL, apW]
    rw [this, ih, Nat.mul_comm 32 s]
    rfl

theorem eraL_take (s n k : Nat) (h : k ≤ n) : (eraL s n).take k = eraL s k := by
  unfold eraL
  rw [← List.map_take, List.take_range, Nat.min_eq_left h]

theorem chgS_era {ws : List Int} {fuel : Int} {s : Nat} (h : chk ws fuel = 0) (hs : (s : Int) < (ws.length : Int) / 32) : chgS ws fuel (eraL s 32) = eraS ws fuel s := by
  unfold chgS eraS
  rw [if_neg (by simpa using h), if_neg (by omega), eraL_length, eraL_take _ _ _ (cnt_le _ _), applyL_era, Int.toNat_natCast]

theorem erases_from (s : Nat) (w : World) (hs : s ≤ 6) : Calls Tryz.prog 137 #[.int .i64 s] w fun e w' => ∃ al cl, e = .returned (.slice al 32 cl) ∧ 32 ≤ cl ∧ IsChgs w' al (eraL s 32) ∧ Below w.heap.size w w' := by
  refine (erases_any s w hs).mono ?_
  rintro e w' ⟨v, rfl, hm⟩
  obtain ⟨al, cl, hv, hc, hl⟩ := hm.isChgs
  rw [eraL_length] at hv hc
  exact ⟨al, cl, by rw [hv], hc, hl, hm.below⟩

theorem programs_from (p : Nat) (a : Option Addr) (n c : Nat) (words : List Int) (w : World) (h : IsInts w a words) (hn : words.length = n) (hm : n ≤ 100000) (hp : p ≤ 100000) :
    Calls Tryz.prog 185 #[.int .i64 p, .slice a n c] w fun e w' => ∃ al cl cs, e = .returned (.slice al n cl) ∧ n ≤ cl ∧ IsChgs w' al cs ∧ ProL p words n cs ∧ Below w.heap.size w w' := by
  refine (programs_any p a n c words w h hn hm hp).mono ?_
  rintro e w' ⟨v, cs, rfl, hm, hpl⟩
  obtain ⟨al, cl, hv, hc, hl⟩ := hm.isChgs
  rw [hpl.1] at hv hc
  exact ⟨al, cl, cs, by rw [hv], hc, hl, hpl, hm.below⟩

end Go.Proofs.YtppmdfndcjgibabGreatDoor

namespace Go.Proofs.YtppmdfndcjgibabGreatDoor
open Go.RowKit
attribute [local go_sem ↓] Go.wp_at_zero Go.wp_at_succ

theorem ProL.lt {p n : Nat} {words : List Int} {cs : List (Nat × Option (Nat × Int))} (h : ProL p words n cs) (c : Nat × Option (Nat × Int)) (hc : c ∈ cs) : c.1 < p + n := by
  obtain ⟨i, hi, he⟩ := List.getElem_of_mem hc
  have hi' : i < n := by rw [h.1] at hi; exact hi
  obtain ⟨b, hb⟩ := h.2 i hi'
  rw [List.getElem?_eq_getElem hi, he] at hb
  have := Option.some.inj hb
  rw [this]
  simp only
  omega

theorem applyL_pro {ws words : List Int} {p n : Nat} {cs : List (Nat × Option (Nat × Int))} (h : ProL p words n cs) (hf : p + n ≤ ws.length) (k : Nat) (hk : k ≤ n) : applyL (cs.take k) ws = chg (andW words) p k ws := by
  induction k with
  | zero => rfl
  | succ k ih =>
    obtain ⟨b, hb⟩ := h.2 k (by omega)
    rw [applyL_succ cs ws k _ hb, ih (by omega)]
    simp only [apW]
    rw [chg_here (andW words) p k ws (by omega)]
    rfl

theorem chgS_pro {ws words : List Int} {fuel : Int} {p : Nat} {cs : List (Nat × Option (Nat × Int))} (h : chk ws fuel = 0) (hp : ProL p words words.length cs) (hf : p + words.length ≤ ws.length) (hok : okL words = true) : chgS ws fuel cs = progS ws fuel p words := by
  rw [prog_ok h hf hok]
  unfold chgS
  rw [hp.1, applyL_pro hp hf _ (cnt_le _ _)]

set_option maxRecDepth 100000 in
set_option maxHeartbeats 2000000 in
theorem programmed_any (a : Option Addr) (n c : Nat) (ws : List Int) (fuel p : Int) (a2 : Option Addr) (n2 c2 : Nat) (words : List Int) (w : World) (h : IsInts w a ws) (hn : ws.length = n) (hk : chk ws fuel = 0) (h2 : IsInts w a2 words) (hn2 : words.length = n2) (hm2 : n2 ≤ maxLen) (hp : -9223372036854775808 ≤ p ∧ p ≤ 9223372036854775807) :
    Calls Tryz.prog 138 #[.agg #[.slice a n c, .int .i64 fuel], .int .i64 p, .slice a2 n2 c2] w (Answers w (progS ws fuel p words)) := by
  have parts := chk_parts hk
  rw [hn] at parts
  have HA := hide (fun W (h : IsInts W a2 words) => refAllWords_any a2 n2 c2 words W h hn2 hm2)
  unfold maxLen at hm2
  have HN := hide hn
  have HN2 := hide hn2
  have HK := hide hk
  clear hn hn2 hk
  have hw : Below w.heap.size w ((w.alloc (.cells #[.slice a n c, .int .i64 fuel] 48)).alloc (.cells #[.slice none 0 0, .int .i64 0] 48)) :=
    ((Below.refl _ _).alloc (Nat.le_refl _) _).alloc (by simp) _
  have b0 := hide (blk_alloc (heap_alloc_last w (.cells #[.slice a n c, .int .i64 fuel] 48)) (.cells #[.slice none 0 0, .int .i64 0] 48))
  have b1 : Hid (((w.alloc (.cells #[.slice a n c, .int .i64 fuel] 48)).alloc (.cells #[.slice none 0 0, .int .i64 0] 48)).heap[w.heap.size + 1]? = some (.cells #[.slice none 0 0, .int .i64 0] 48 (0, 0))) := by
    show _ = _
    simpa using heap_alloc_last (w.alloc _) _
  have i0 := h.below hw
  have i2 := h2.below hw
  go_enter Tryz.func138, Tryz.ntmps138
  go_upto_region 1 with fail
  generalize (w.alloc (.cells #[.slice a n c, .int .i64 fuel] 48)).alloc (.cells #[.slice none 0 0, .int .i64 0] 48) = W at *
  have x0 : W.cell? ⟨w.heap.size, 0, none⟩ = some (.slice a n c) := blk_cell b0.out 0 _ rfl
  have x1 : W.cell? ⟨w.heap.size, 1, none⟩ = some (.int .i64 fuel) := blk_cell b0.out 1 _ rfl
  have r0 := blk_cell b1.out 0 _ rfl
  have r1 := blk_cell b1.out 1 _ rfl
  have f0 := blk_free b1.out 0
  have f1 := blk_free b1.out 1
  have lt0 := blk_lt b0.out
  have lt1 := blk_lt b1.out
  go_cut [26] (fun v26 wx => v26 = .bool (!fitB n p n2) ∧ wx = W)
  case first =>
    by_cases s0 : p < 0
    · go_wp2_with fail
      go_meet
      case rel => exact ⟨congrArg Value.bool (by unfold fitB; simp; omega), rfl⟩
    · have s0' : decide (p < 0) = false := by simp; omega
      by_cases s1 : (n : Int) < p
      · go_wp2_with fail
        go_meet
        case rel => exact ⟨congrArg Value.bool (by unfold fitB; simp; omega), rfl⟩
      · have s1' : decide ((n : Int) < p) = false := by simp; omega
        by_cases s2 : (n : Int) - p < (n2 : Int)
        · go_wp2_with fail
          go_meet
          case rel => exact ⟨congrArg Value.bool (by unfold fitB; simp; omega), rfl⟩
        · have s2' : decide ((n : Int) - p < (n2 : Int)) = false := by simp; omega
          go_wp2_with fail
          go_meet
          case rel => exact ⟨congrArg Value.bool (by unfold fitB; simp; omega), rfl⟩
  case rest =>
    obtain ⟨rfl, hwc⟩ := hcut
    subst hwc
    cases hin : fitB n p n2
    · have hr : Hid (progS ws fuel p words = ([], 0, 5)) := by show _ = _; unfold progS; rw [if_neg (by simpa using HK.out), HN.out, HN2.out, if_pos hin]
      clear hin
      go_wp2
      refine bodyPost_ret (v := .tuple #[.agg #[.slice none 0 0, .int .i64 0], .int .i64 5]) (by simp [results, Tryz.results138, go_sem, r0, r1]) rfl ?_
      exact answers_err hr.out ((hw.setCell (by simp) _).setCell (by simp) _)
    have hfit : 0 ≤ p ∧ (n2 : Int) ≤ (n : Int) - p := by unfold fitB at hin; simp at hin; omega
    obtain ⟨pn, rfl⟩ := Int.eq_ofNat_of_zero_le hfit.1
    have HFit := hide hin
    clear hin
    go_wp2_with fail
    refine (unhide HA _ i2).mono ?_
    rintro e wv ⟨rfl, rfl⟩
    cases hok : okL words
    · have hr : Hid (progS ws fuel pn words = ([], 0, 3)) := by show _ = _; unfold progS; rw [if_neg (by simpa using HK.out), HN.out, HN2.out, if_neg (by simp [HFit.out]), if_pos hok]
      clear hok
      go_wp2
      refine bodyPost_ret (v := .tuple #[.agg #[.slice none 0 0, .int .i64 0], .int .i64 3]) (by simp [results, Tryz.results138, go_sem, r0, r1]) rfl ?_
      exact answers_err hr.out ((hw.setCell (by simp) _).setCell (by simp) _)
    have HR := hide (fun cs (hp : ProL pn words n2 cs) => chgS_pro (cs := cs) HK.out (by rw [HN2.out]; exact hp) (by rw [HN.out, HN2.out]; omega) hok)
    have HCh := hide (fun W' (al : Option Addr) (cl : Nat) (cs : List (Nat × Option (Nat × Int))) (hb : Below wv.heap.size wv W') (hl : IsChgs W' al cs) (hp : ProL pn words n2 cs) (hcl : n2 ≤ cl) => changed_any a n c ws fuel al n2 cl cs W' (i0.below hb) HN.out (by omega) (by omega) (by omega) hl hp.1 hcl (by omega) (fun c hc => by have := hp.lt c hc; omega))
    clear hok
    have HP := hide (fun W' (hb : Below wv.heap.size wv W') => programs_from pn a2 n2 c2 words W' (i2.below hb) HN2.out (by omega) (by omega))
    go_wp2_with fail
    go_region_held3 (fun w' => w'.cell? ⟨w.heap.size, 0, none⟩ = some (.slice a n c) ∧ w'.cell? ⟨w.heap.size, 1, none⟩ = some (.int .i64 fuel)) (first | exact ⟨by assumption, by assumption⟩ | go_keep)
      ((first | (go_at_call 185; refine (unhide HP _ ?_).mono ?_; exact (Below.refl _ _).drew; rintro e w5 ⟨al, cl, cs, rfl, hcl, hlc, hpl, hb5⟩; replace hb5 : Below wv.heap.size wv w5 := Below.trans (Below.refl _ wv).drew hb5; have z0 : w5.cell? ⟨w.heap.size, 0, none⟩ = some (.slice a n c) := (by rw [hb5.cell lt0]; exact x0); have z1 : w5.cell? ⟨w.heap.size, 1, none⟩ = some (.int .i64 fuel) := (by rw [hb5.cell lt0]; exact x1)) | (go_at_call 136; refine (unhide HCh _ _ _ cs ?_ ?_ ?_ ?_).mono ?_; exact hb5; exact hlc; exact hpl; exact hcl; rintro e w6 ⟨⟨a6, n6, c6, rfl, hi6, hn6, hc6, hf6⟩, hb6⟩; have hb7 : Below wv.heap.size wv w6 := (Below.trans (b := w5) hb5 (hb6.mono hb5.size)); have y0 : w6.cell? ⟨w.heap.size, 0, none⟩ = some (.slice a n c) := (by rw [hb7.cell lt0]; exact x0); have y1 : w6.cell? ⟨w.heap.size, 1, none⟩ = some (.int .i64 fuel) := (by rw [hb7.cell lt0]; exact x1); have q0 := blk_cell (blk_below b1.out hb7) 0 _ rfl; have q1 := blk_cell (blk_below b1.out hb7) 1 _ rfl; have q2 := blk_free (blk_below b1.out hb7) 0; have q3 := blk_free (blk_below b1.out hb7) 1)))
    go_wp2
    refine bodyPost_ret (v := .tuple #[.agg #[.slice a6 n6 c6, .int .i64 (chgS ws fuel cs).2.1], .int .i64 (chgS ws fuel cs).2.2]) (by simp [results, Tryz.results138, go_sem, q0, q1]) rfl ?_
    rw [← HR.out cs hpl]
    have hw7 := hw.trans (hb7.mono hw.size)
    refine ⟨⟨a6, n6, c6, rfl, ?_, hn6, hc6, FreshA.mono hf6 (by have := hw.size; have := hb5.size; omega)⟩, (hw7.setCell (by simp) _).setCell (by simp) _⟩
    exact (hi6.other (B := wv.heap.size) (FreshA.mono hf6 hb5.size) lt1 0 _).other (B := wv.heap.size) (FreshA.mono hf6 hb5.size) lt1 1 _

end Go.Proofs.YtppmdfndcjgibabGreatDoor

namespace Go.Proofs.YtppmdfndcjgibabGreatDoor
open Go.RowKit

theorem applyL_append (A B : List (Nat × Option (Nat × Int))) (ws : List Int) : applyL (A ++ B) ws = applyL B (applyL A ws) := by
  unfold applyL; rw [List.foldl_append]

theorem cnt_add_stop {f : Int} {n m : Nat} (h : cnt f n < n) : cnt f (n + m) = cnt f n := by
  by_cases hf : f < 0
  · rw [cnt_neg _ hf] at h; omega
  · rw [cnt_nn _ hf] at *; rw [cnt_nn _ hf]; omega
theorem cnt_add_go {f : Int} {n m : Nat} (h : cnt f n = n) : cnt f (n + m) = n + cnt (burn f n) m := by
  by_cases hf : f < 0
  · rw [cnt_neg _ hf, burn_negf _ hf, cnt_neg _ hf]
  · have h' := h
    rw [cnt_nn _ hf] at h'
    rw [cnt_nn _ hf, burn_nn _ hf, cnt_nn _ (by omega)]
    omega
theorem burn_add {f : Int} {n k : Nat} (h : cnt f n = n) : burn f (n + k) = burn (burn f n) k := by
  by_cases hf : f < 0
  · rw [burn_negf _ hf, burn_negf _ hf, burn_negf _ hf]
  · have h' := h
    rw [cnt_nn _ hf] at h'
    rw [burn_nn _ hf, burn_nn _ hf, burn_nn _ (by omega)]
    omega

theorem chgS_stop {ws : List Int} {f : Int} {A B : List (Nat × Option (Nat × Int))} (h : cnt f A.length < A.length) : chgS ws f (A ++ B) = chgS ws f A := by
  unfold chgS
  rw [List.length_append, cnt_add_stop h, perr_no h, perr_no (by rw [cnt_add_stop h]; omega), List.take_append_of_le_length (by omega)]

theorem chgS_go {ws : List Int} {f : Int} {A B : List (Nat × Option (Nat × Int))} (h : cnt f A.length = A.length) : chgS ws f (A ++ B) = chgS (applyL A ws) (burn f A.length) B := by
  unfold chgS
  rw [List.length_append, cnt_add_go h, burn_add h, List.take_length_add_append, applyL_append]
  congr 2
  unfold perr
  rw [cnt_add_go h]
  by_cases c : cnt (burn f A.length) B.length = B.length
  · rw [if_pos c, if_pos (by omega)]
  · rw [if_neg c, if_neg (by omega)]

end Go.Proofs.YtppmdfndcjgibabGreatDoor

namespace Go.Proofs.YtppmdfndcjgibabGreatDoor
open Go.RowKit

def proC (p : Nat) (words : List Int) : List (Nat × Option (Nat × Int)) := (List.range words.length).map (fun i => (p + i, some (0, words.getD i 0)))
theorem proC_length (p : Nat) (words : List Int) : (proC p words).length = words.length := by simp [proC]
theorem proC_pro (p : Nat) (words : List Int) : ProL p words words.length (proC p words) := by
  refine ⟨proC_length _ _, fun i hi => ⟨0, ?_⟩⟩
  simp [proC, hi]

/-- The changes of a step. -/
def stC : Stp → List (Nat × Option (Nat × Int))
  | .era s => eraL s 32
  | .prg p words => proC p words
def StOk (L : Nat) : Stp → Prop
  | .era s => s * 32 + 32 ≤ L
  | .prg p words => p + words.length ≤ L ∧ okL words = true

theorem doS_chg {st : Stp} {ws : List Int} {f : Int} (h : chk ws f = 0) (ho : StOk ws.length st) : doS st ws f = chgS ws f (stC st) := by
  have hp := chk_parts h
  cases st with
  | era s => exact (chgS_era h (by simp only [StOk] at ho; omega)).symm
  | prg p words => exact (chgS_pro h (proC_pro p words) ho.1 ho.2).symm

theorem applyL_ok {ws : List Int} {cs : List (Nat × Option (Nat × Int))} (h : okL ws = true) (hc : ∀ c ∈ cs, ∀ b x, c.2 = some (b, x) → okW x = true) : okL (applyL cs ws) = true := by
  induction cs generalizing ws with
  | nil => exact h
  | cons c cs ih =>
    show okL (applyL cs (ws.set c.1 (apW c.2 (ws.getD c.1 0)))) = true
    refine ih ?_ (fun d hd => hc d (List.mem_cons_of_mem _ hd))
    by_cases hlt : c.1 < ws.length
    · apply okL_of
      intro i hi
      simp at hi
      by_cases e : c.1 = i
      · subst e
        have : (ws.set c.1 (apW c.2 (ws.getD c.1 0))).getD c.1 0 = apW c.2 (ws.getD c.1 0) := by simp [hlt]
        rw [this]
        cases h2 : c.2 with
        | none => rfl
        | some p => obtain ⟨b, x⟩ := p; exact and_ok (okL_get h _ hlt) (hc c List.mem_cons_self b x h2)
      · have : (ws.set c.1 (apW c.2 (ws.getD c.1 0))).getD i 0 = ws.getD i 0 := by simp [e]
        rw [this]
        exact okL_get h i hi
    · rw [List.set_eq_of_length_le (by omega)]
      exact h

theorem stC_ok {L : Nat} {st : Stp} (h : StOk L st) : ∀ c ∈ stC st, ∀ b x, c.2 = some (b, x) → okW x = true := by
  intro c hc b x hx
  cases st with
  | era s => simp [stC, eraL] at hc; obtain ⟨i, _, rfl⟩ := hc; cases hx
  | prg p words =>
    simp only [stC, proC, List.mem_map, List.mem_range] at hc
    obtain ⟨i, hi, rfl⟩ := hc
    simp only [Option.some.injEq, Prod.mk.injEq] at hx
    rw [← hx.2]
    exact okL_get h.2 i hi

theorem chk_of {ws : List Int} {f f' : Int} {us : List Int} (h : chk ws f = 0) (hl : us.length = ws.length) (hok : okL us = true) (h0 : -1 ≤ f') (h1 : f' ≤ 100000) : chk us f' = 0 := by
  have q := chk_parts h
  apply chk_ok
  · rw [hl]; exact decide_eq_true q.1
  · unfold rangeB; rw [hok]; simp; omega

theorem turn_chg (sts : List Stp) (ws : List Int) (f : Int) (h : chk ws f = 0) (ho : ∀ st ∈ sts, StOk ws.length st) : turnS sts ws f = chgS ws f (sts.flatMap stC) := by
  induction sts generalizing ws f with
  | nil =>
    have : cnt f 0 = 0 := Nat.le_zero.1 (cnt_le _ _)
    show (ws, f, (0 : Int)) = chgS ws f []
    unfold chgS
    rw [List.length_nil, this, perr_ok this]
    have : burn f 0 = f := by unfold burn; split <;> simp
    rw [this]
    rfl
  | cons st sts ih =>
    have hd := doS_chg h (ho st List.mem_cons_self)
    have q := chk_parts h
    rw [List.flatMap_cons]
    by_cases c : cnt f (stC st).length = (stC st).length
    · have e2 : (doS st ws f).2.2 = 0 := by rw [hd]; exact perr_ok c
      rw [turnS_go e2, hd, chgS_go c]
      have e1 : (chgS ws f (stC st)).1 = applyL (stC st) ws := by unfold chgS; rw [c, List.take_length]
      have e3 : (chgS ws f (stC st)).2.1 = burn f (stC st).length := by unfold chgS; rw [c]
      rw [e1, e3]
      have bb := burn_bounds q.2.1 q.2.2.1 (Nat.le_of_eq c.symm)
      refine ih _ _ ?_ ?_
      · exact chk_of h (applyL_length _ _) (applyL_ok q.2.2.2 (stC_ok (ho st List.mem_cons_self))) bb.1 bb.2
      · rw [applyL_length]; exact fun d hd => ho d (List.mem_cons_of_mem _ hd)
    · have lt : cnt f (stC st).length < (stC st).length := by have := cnt_le f (stC st).length; omega
      have e2 : (doS st ws f).2.2 ≠ 0 := by
        rw [hd]
        show perr f (stC st).length ≠ 0
        rw [perr_no lt]; decide
      rw [turnS_stop e2, hd, chgS_stop lt]

/-! ### Append as changes -/
theorem addL_ok {xs r : List Int} (h : okL xs = true) (hr : recE r = 0) : okL (addL xs r) = true := by
  have q := recE_ok hr
  unfold addL okL at *
  rw [List.all_append, List.all_cons, h, q.2.2]
  have : okW (headS r.length) = true := by unfold okW headS; simp; omega
  rw [this]
  rfl

theorem addE_rec {xs r : List Int} (h : addE xs r = 0) : recE r = 0 := by
  unfold addE at h
  split at h
  · rename_i h1; exact absurd h h1
  · rename_i h1; simpa using h1

theorem laidS_ok (rs : List (List Int)) (xs : List Int) (h : okL xs = true) : okL (laidS rs xs).1 = true := by
  induction rs generalizing xs with
  | nil => exact h
  | cons r rs ih =>
    by_cases e : addE xs r = 0
    · rw [laidS_cons_ok e]; exact ih _ (addL_ok h (addE_rec e))
    · rw [laidS_cons_no e]; rfl

/-- Where Append has no error of its own. -/
theorem appErr_ok {ws : List Int} {f : Int} {r : List Int} {keep : List (List Int)} (h : appErr ws f r keep = 0) : lchk ws f = 0 ∧ recE r = 0 ∧ (laidA r keep).2 = 0 ∧ (fitsA ws r = true ∨ genN ws ≠ 60000) := by
  unfold appErr at h
  split at h
  · rename_i h1; exact absurd h h1
  · rename_i h1
    split at h
    · rename_i h2; exact absurd h h2
    · rename_i h2
      split at h
      · rename_i h3; exact absurd h h3
      · rename_i h3
        split at h
        · simp at h
        · rename_i h4
          refine ⟨by simpa using h1, by simpa using h2, by simpa using h3, ?_⟩
          cases hf : fitsA ws r
          · right; intro hg; exact h4 ⟨hf, hg⟩
          · left; rfl

theorem appErr_mk {ws : List Int} {f : Int} {r : List Int} {keep : List (List Int)} (h1 : lchk ws f = 0) (h2 : recE r = 0) (h3 : (laidA r keep).2 = 0) (h4 : fitsA ws r = true ∨ genN ws ≠ 60000) : appErr ws f r keep = 0 := by
  unfold appErr
  rw [if_neg (by simpa using h1), if_neg (by simpa using h2), if_neg (by simpa using h3), if_neg]
  rintro ⟨h5, h6⟩
  rcases h4 with h4 | h4
  · rw [h5] at h4; cases h4
  · exact h4 h6

theorem lchk_mk {ws : List Int} {f : Int} (h1 : chk ws f = 0) (h2 : 64 ≤ ws.length) (h3 : genN ws ≠ 0) (h4 : genN ws ≤ 60000) : lchk ws f = 0 := by
  have hs : secS ws f = 0 := by unfold secS; rw [if_neg (by simpa using h1), if_neg (by omega)]
  unfold lchk
  rw [if_neg (by simpa using hs), if_neg (by omega)]

theorem lchk_fuel {ws : List Int} {f f' : Int} (h : lchk ws f = 0) (h0 : -1 ≤ f') (h1 : f' ≤ 100000) : lchk ws f' = 0 := by
  have q := lchk_parts h
  exact lchk_mk (chk_fuel q.1 h0 h1) q.2.1 q.2.2.2.2.1 q.2.2.2.2.2

theorem appErr_fuel {ws : List Int} {f f' : Int} {r : List Int} {keep : List (List Int)} (h : appErr ws f r keep = 0) (h0 : -1 ≤ f') (h1 : f' ≤ 100000) : appErr ws f' r keep = 0 := by
  have q := appErr_ok h
  exact appErr_mk (lchk_fuel q.1 h0 h1) q.2.1 q.2.2.1 q.2.2.2

/-- The changes of an Append. -/
def appC (ws r : List Int) (keep : List (List Int)) : List (Nat × Option (Nat × Int)) := (appSteps ws r keep).flatMap stC

theorem headS_ok {n : Nat} (h : n ≤ 4) : okW (headS n) = true := by unfold okW headS; simp; omega

theorem fitsA_parts {ws r : List Int} (h : fitsA ws r = true) : cleanS (restS ws) = true ∧ r.length < (restS ws).length := by
  unfold fitsA at h
  simpa using h

theorem appSteps_ok {ws : List Int} {f : Int} {r : List Int} {keep : List (List Int)} (h : appErr ws f r keep = 0) : ∀ st ∈ appSteps ws r keep, StOk ws.length st := by
  have q := appErr_ok h
  have l := lchk_parts q.1
  have rr := recE_ok q.2.1
  have hf := restS_few l.2.1
  have hs := secN_01 ws
  intro st hst
  unfold appSteps at hst
  split at hst
  · rename_i hfit
    have hp := fitsA_parts hfit
    simp only [List.mem_cons, List.not_mem_nil, or_false] at hst
    rcases hst with rfl | rfl
    · exact ⟨by unfold headP; rcases hs with e | e <;> rw [e] <;> omega, rr.2.2⟩
    · exact ⟨by unfold headP; simp only [List.length_cons, List.length_nil]; rcases hs with e | e <;> rw [e] <;> omega, by unfold okL; rw [List.all_cons, headS_ok rr.2.1]; rfl⟩
  · rename_i hfit
    simp only [List.mem_cons, List.not_mem_nil, or_false] at hst
    have hl : (laidA r keep).1.length ≤ 31 := laidS_few _ _ (by simp)
    have hg := q.2.2.2.resolve_left hfit
    have hgn := genN_nonneg l.2.2.2.1 l.2.1
    rcases hst with rfl | rfl | rfl
    · show (1 - secN ws) * 32 + 32 ≤ _
      omega
    · exact ⟨by omega, laidS_ok _ _ rfl⟩
    · refine ⟨by simp only [List.length_cons, List.length_nil]; omega, ?_⟩
      unfold okL
      rw [List.all_cons]
      have : okW (genN ws + 1) = true := by unfold okW; simp; omega
      rw [this]; rfl

theorem app_chg {ws : List Int} {f : Int} {r : List Int} {keep : List (List Int)} (h : appErr ws f r keep = 0) : appS ws f r keep = chgS ws f (appC ws r keep) := by
  unfold appS
  rw [if_neg (by simpa using h)]
  exact turn_chg _ _ _ (lchk_parts (appErr_ok h).1).1 (appSteps_ok h)

theorem app_err {ws : List Int} {f : Int} {r : List Int} {keep : List (List Int)} (h : appErr ws f r keep ≠ 0) : appS ws f r keep = ([], 0, appErr ws f r keep) := by
  unfold appS
  rw [if_pos h]

theorem appC_few {ws r : List Int} {keep : List (List Int)} (hr : recE r = 0) : 2 ≤ (appC ws r keep).length ∧ (appC ws r keep).length ≤ 64 := by
  have rr := recE_ok hr
  have hl : (laidA r keep).1.length ≤ 31 := laidS_few _ _ (by simp)
  unfold appC appSteps
  split
  · simp [stC, proC_length]; omega
  · simp [stC, proC_length, eraL_length]; omega

theorem app_full {ws : List Int} {f : Int} {r : List Int} {keep : List (List Int)} (h : appErr ws f r keep = 0) (hf : cnt f (appC ws r keep).length = (appC ws r keep).length) : appS ws f r keep = (applyL (appC ws r keep) ws, burn f (appC ws r keep).length, 0) := by
  rw [app_chg h]
  unfold chgS
  rw [hf, List.take_length, perr_ok hf]

/-- With all power. -/
theorem app_neg {ws : List Int} {r : List Int} {keep : List (List Int)} (h : appErr ws (-1) r keep = 0) : appS ws (-1) r keep = (applyL (appC ws r keep) ws, -1, 0) := by
  rw [app_full h (cnt_neg _ (by decide)), burn_negf _ (by decide)]

theorem app_pow {ws : List Int} {r : List Int} {keep : List (List Int)} (k : Nat) (hk : k ≤ 1000) (h : appErr ws (-1) r keep = 0) (hle : (appC ws r keep).length ≤ k) : appS ws k r keep = (applyL (appC ws r keep) ws, (k : Int) - ((appC ws r keep).length : Int), 0) := by
  have hc : cnt (k : Int) (appC ws r keep).length = (appC ws r keep).length := by rw [cnt_nn _ (by omega)]; omega
  rw [app_full (appErr_fuel h (by omega) (by omega)) hc, burn_nn _ (by omega)]

theorem app_less {ws : List Int} {r : List Int} {keep : List (List Int)} (k : Nat) (hk : k ≤ 1000) (h : appErr ws (-1) r keep = 0) (hlt : k < (appC ws r keep).length) : (appS ws k r keep).2.2 = 7 := by
  rw [app_chg (appErr_fuel h (by omega) (by omega))]
  show perr _ _ = 7
  exact perr_no (by rw [cnt_nn _ (by omega)]; omega)

end Go.Proofs.YtppmdfndcjgibabGreatDoor
