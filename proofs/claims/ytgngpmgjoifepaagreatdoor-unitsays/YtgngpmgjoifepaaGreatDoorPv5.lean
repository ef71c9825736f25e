/- The contract of log.inTurn. The contract of log.parse: the records of a sector, and the words behind them. The contracts of log.Format and log.Records. -/
import Derived.Test.YtgngpmgjoifepaaGreatDoorPv4
import Derived.Deep.DeepCutAuto
namespace Go.Proofs.YtgngpmgjoifepaaGreatDoor
open Go.RowKit
attribute [local go_sem ↓] Go.wp_at_zero Go.wp_at_succ

def TurnSt (w : World) (B n k : Nat) (ws : List Int) (f : Int) (wr : World) : Prop :=
  ∃ a c, wr.heap[B]? = some (.cells #[.slice a n c, .int .i64 f] 27 (0, 0)) ∧ IsInts wr a ws ∧ ws.length = n ∧ (k = 0 ∨ (FreshA (w.heap.size + 2) a ∧ n ≤ c))

set_option maxRecDepth 100000 in
set_option maxHeartbeats 2000000 in
theorem inTurn_any (a : Option Addr) (n c : Nat) (ws : List Int) (fuel : Int) (al : Option Addr) (L cl : Nat) (sts : List Stp) (w : World) (h : IsInts w a ws) (hn : ws.length = n) (hm : n ≤ maxLen) (hst : IsSteps w al sts) (hL : sts.length = L) (hL1 : 1 ≤ L) (hL2 : L ≤ 100) :
    Calls Tryz.prog 109 #[.agg #[.slice a n c, .int .i64 fuel], .slice al L cl] w (Answers w (turnS sts ws fuel)) := by
  have hw : Below w.heap.size w ((w.alloc (.cells #[.slice a n c, .int .i64 fuel] 27)).alloc (.cells #[.slice none 0 0, .int .i64 0] 27)) :=
    ((Below.refl _ _).alloc (Nat.le_refl _) _).alloc (by simp) _
  have b0 := blk_alloc (heap_alloc_last w (.cells #[.slice a n c, .int .i64 fuel] 27)) (.cells #[.slice none 0 0, .int .i64 0] 27)
  have b1 : ((w.alloc (.cells #[.slice a n c, .int .i64 fuel] 27)).alloc (.cells #[.slice none 0 0, .int .i64 0] 27)).heap[w.heap.size + 1]? = some (.cells #[.slice none 0 0, .int .i64 0] 27 (0, 0)) :=
    by simpa using heap_alloc_last (w.alloc _) _
  have hstart : TurnSt w w.heap.size n 0 ws fuel ((w.alloc (.cells #[.slice a n c, .int .i64 fuel] 27)).alloc (.cells #[.slice none 0 0, .int .i64 0] 27)) := ⟨a, c, b0, h.below hw, hn, .inl rfl⟩
  have B1 := hide b1
  have HL := hide hL
  clear hL b0 b1 hn h
  obtain ⟨bs, rfl, hsteps⟩ := hst
  have HS := hide hsteps
  clear hsteps
  go_enter Tryz.func109, Tryz.ntmps109
  go_wp2
  generalize (w.alloc (.cells #[.slice a n c, .int .i64 fuel] 27)).alloc (.cells #[.slice none 0 0, .int .i64 0] 27) = W at *
  go_loopw [11] (fun i wr => ∃ (k : Nat) (us : List Int) (f : Int), k ≤ L ∧ i = .int .i64 k ∧ TurnSt w w.heap.size n k us f wr ∧ Hid (wr.heap[w.heap.size + 1]? = some (.cells #[.slice none 0 0, .int .i64 0] 27 (0, 0))) ∧ Below w.heap.size w wr ∧ Hid (turnS sts ws fuel = turnS (sts.drop k) us f)) (fun i _ => L - (intOf i).toNat)
  case atStart => exact ⟨0, ws, fuel, Nat.zero_le _, rfl, hstart, B1, hw, by show _ = _; rw [List.drop_zero]⟩
  case round =>
    obtain ⟨k, us, f, hk, rfl, ⟨a1, c1, hbox, hi, hlen, hfr⟩, hz, hbe, hl⟩ := hrel
    have x0 := blk_cell hbox 0 _ rfl
    have x1 := blk_cell hbox 1 _ rfl
    have HBox := hide hbox
    have HLen := hide hlen
    clear hbox hlen
    by_cases hlt : k < L
    {
    have hkl : k < sts.length := by rw [HL.out]; exact hlt
    obtain ⟨v, hv, hsv⟩ := HS.out k sts[k] (List.getElem?_eq_getElem hkl)
    have hd : Hid (sts.drop k = sts[k] :: sts.drop (k + 1)) := List.drop_eq_getElem_cons hkl
    have hv' : wr.cell? ⟨bs, k, none⟩ = some v := by rw [hbe.cell (cell_lt hv)]; exact hv
    replace hsv := hsv.below hbe
    obtain ⟨st, hst⟩ : ∃ st, st = sts[k] := ⟨_, rfl⟩
    rw [← hst] at hsv hd
    clear hst hv
    have HC : Hid (∃ fn caps, v = .func (.func fn) #[] caps ∧ (fn = 161 ∧ (∃ p, caps = #[p]) ∨ fn = 163 ∧ ∃ p q, caps = #[p, q]) ∧ Calls Tryz.prog fn (#[.agg #[.slice a1 n c1, .int .i64 f]] ++ caps) wr (Answers wr (doS st us f))) := by
      cases st with
      | inl s =>
        obtain ⟨b, h1, h2, h3⟩ := hsv
        exact ⟨_, _, h1, .inl ⟨rfl, _, rfl⟩, eraStep_any b s a1 n c1 us f wr h2 hi HLen.out hm⟩
      | inr q =>
        obtain ⟨p, words⟩ := q
        obtain ⟨p1, p2, a2, n2, c2, h1, h2, h3, h4, h5, h6, h7⟩ := hsv
        exact ⟨_, _, h1, .inr ⟨rfl, _, _, rfl⟩, prgStep_any p1 p2 p a2 n2 c2 words a1 n c1 us f wr h2 h3 h4 h5 h6 h7 hi HLen.out hm⟩
    obtain ⟨fn, caps, rfl, hcaps, hcall⟩ := HC.out
    have HCall := hide hcall
    clear HC hcall hsv
    have lt0 := blk_lt HBox.out
    have lt1 := blk_lt hz.out
    have z0 : (k : Int) < (L : Int) := by omega
    rcases hcaps with ⟨rfl, p, rfl⟩ | ⟨rfl, p, q, rfl⟩
    all_goals
      go_wp2_with fail
      refine (unhide HCall).mono ?_
      rintro e w1 ⟨⟨a2, n2, c2, rfl, hi2, hn2, hc2, hf2⟩, hb2⟩
      have y0 := blk_cell (blk_below HBox.out hb2) 0 _ rfl
      have y1 := blk_cell (blk_below HBox.out hb2) 1 _ rfl
      have y2 := blk_free (blk_below HBox.out hb2) 0
      have y3 := blk_free (blk_below HBox.out hb2) 1
      have u0 := blk_cell (blk_below hz.out hb2) 0 _ rfl
      have u1 := blk_cell (blk_below hz.out hb2) 1 _ rfl
      have u2 := blk_free (blk_below hz.out hb2) 0
      have u3 := blk_free (blk_below hz.out hb2) 1
      have hbe2 := hbe.trans (hb2.mono hbe.size)
      have HN2 := hide hn2
      have HI2 := hide hi2
      have HF2 := hide hf2
      clear hn2 hi2 hf2
      by_cases e1 : (doS st us f).2.2 = 0
      {
      have e1' : ((doS st us f).2.2 != 0) = false := by simpa using e1
      have hl2 : Hid (turnS sts ws fuel = turnS (sts.drop (k + 1)) (doS st us f).1 (doS st us f).2.1) := by show _ = _; rw [hl.out, hd.out, turnS_go e1]
      have hlen2 : Hid ((doS st us f).1.length = n) := by show _ = _; rw [doS_len e1]; exact HLen.out
      obtain rfl : n2 = n := by rw [← HN2.out, hlen2.out]
      rw [e1] at *
      clear e1
      go_wp2
      go_roundw
      case rel =>
        refine ⟨k + 1, (doS st us f).1, (doS st us f).2.1, by omega, by go_num, ⟨a2, c2, ?_, (HI2.out.other HF2.out lt0 0 _).other HF2.out lt0 1 _, hlen2.out, .inr ⟨FreshA.mono HF2.out (by omega), hc2⟩⟩, ?_, (hbe2.setCell (by simp) _).setCell (by simp) _, hl2⟩
        {
        have := blk_below HBox.out hb2
        simp only [World.setCell, Array.getElem?_modify]
        simp [this]
        }
        {
        show _ = _
        rw [Below.heap_setCell _ _ _ _ (by simp), Below.heap_setCell _ _ _ _ (by simp)]
        exact blk_below hz.out hb2
        }
      case measure => simp [intOf]; omega
      }
      {
      have e1' : ((doS st us f).2.2 != 0) = true := by simpa using e1
      have hl2 : Hid (turnS sts ws fuel = doS st us f) := by show _ = _; rw [hl.out, hd.out, turnS_stop e1]
      clear e1
      go_wp2
      refine bodyPost_ret (v := .tuple #[.agg #[.slice a2 n2 c2, .int .i64 (doS st us f).2.1], .int .i64 (doS st us f).2.2]) (by simp [results, Tryz.results109, go_sem, u0, u1]) rfl ?_
      rw [hl2.out]
      exact ⟨⟨a2, n2, c2, rfl, (((HI2.out.other HF2.out lt0 0 _).other HF2.out lt0 1 _).other HF2.out lt1 0 _).other HF2.out lt1 1 _, HN2.out, hc2, FreshA.mono HF2.out (by omega)⟩, (((hbe2.setCell (by simp) _).setCell (by simp) _).setCell (by simp) _).setCell (by simp) _⟩
      }
    }
    {
    have hd : Hid (turnS sts ws fuel = (us, f, 0)) := by show _ = _; rw [hl.out, List.drop_eq_nil_of_le (by rw [HL.out]; omega)]; rfl
    obtain ⟨hf, hc⟩ := hfr.resolve_left (by omega)
    have HI := hide hi
    have u0 := blk_cell hz.out 0 _ rfl
    have u1 := blk_cell hz.out 1 _ rfl
    have u2 := blk_free hz.out 0
    have u3 := blk_free hz.out 1
    have z0 : ¬ (k : Int) < (L : Int) := by omega
    clear hi
    go_wp2
    refine bodyPost_ret (v := .tuple #[.agg #[.slice a1 n c1, .int .i64 f], .int .i64 0]) (by simp [results, Tryz.results109, go_sem, u0, u1]) rfl ?_
    rw [hd.out]
    exact ⟨⟨a1, n, c1, rfl, (HI.out.other hf (by omega) 0 _).other hf (by omega) 1 _, HLen.out, hc, FreshA.mono hf (by omega)⟩, (hbe.setCell (by simp) _).setCell (by simp) _⟩

    }
end Go.Proofs.YtgngpmgjoifepaaGreatDoor

namespace Go.Proofs.YtgngpmgjoifepaaGreatDoor
open Go.RowKit
attribute [local go_sem ↓] Go.wp_at_zero Go.wp_at_succ

def parseN : Nat → List Int → List (List Int) × List Int
  | 0, l => ([], l)
  | k + 1, l => if longS l = 0 then ([], l) else ((l.drop 1).take (longS l) :: (parseN k (l.drop (1 + longS l))).1, (parseN k (l.drop (1 + longS l))).2)
def parseS (l : List Int) : List (List Int) × List Int := parseN l.length l
def secL (ws : List Int) (s : Nat) : List Int := (ws.drop (s * 32 + 1)).take 31

theorem parseN_succ (k : Nat) (l : List Int) : parseN (k + 1) l = if longS l = 0 then ([], l) else ((l.drop 1).take (longS l) :: (parseN k (l.drop (1 + longS l))).1, (parseN k (l.drop (1 + longS l))).2) := rfl

theorem parseN_more (k : Nat) (l : List Int) (h : l.length ≤ k) : parseN (k + 1) l = parseN k l := by
  induction k generalizing l with
  | zero =>
    have : l = [] := List.eq_nil_of_length_eq_zero (by omega)
    subst this
    rfl
  | succ k ih =>
    rw [parseN_succ (k + 1) l, parseN_succ k l]
    split
    { rfl }
    {
    rw [ih _ (by simp; omega)]

    }
theorem parseN_enough (k : Nat) (l : List Int) (h : l.length ≤ k) : parseN k l = parseS l := by
  obtain ⟨d, rfl⟩ : ∃ d, k = l.length + d := ⟨k - l.length, by omega⟩
  induction d with
  | zero => rfl
  | succ d ih => rw [← Nat.add_assoc, parseN_more _ _ (by omega), ih (by omega)]

theorem parseS_stop {l : List Int} (h : longS l = 0) : parseS l = ([], l) := by
  rw [← parseN_enough (l.length + 1) l (by omega), parseN_succ, if_pos h]

theorem parseS_step {l : List Int} (h : longS l ≠ 0) : parseS l = ((l.drop 1).take (longS l) :: (parseS (l.drop (1 + longS l))).1, (parseS (l.drop (1 + longS l))).2) := by
  rw [← parseN_enough (l.length + 1) l (by omega), parseN_succ, if_neg h, parseN_enough _ _ (by simp)]

theorem parseN_few (k : Nat) (l : List Int) : (parseN k l).1.length ≤ l.length := by
  induction k generalizing l with
  | zero => simp [parseN]
  | succ k ih =>
    rw [parseN_succ]
    split
    { simp }
    {
    rename_i h
    have := ih (l.drop (1 + longS l))
    have h2 := longS_lt (l := l) (by omega)
    simp at this ⊢
    omega
    }
theorem parseS_few (l : List Int) : (parseS l).1.length ≤ l.length := parseN_few _ _

theorem secL_length {ws : List Int} {s : Nat} (h : s * 32 + 32 ≤ ws.length) : (secL ws s).length = 31 := by simp [secL]; omega

def sliceLen : Value → Nat
  | .slice _ n _ => n
  | _ => 0

def ParseAns (w : World) (l : List Int) (e : Ending) (w' : World) : Prop :=
  (∃ v a m cc, e = .returned (.tuple #[v, .slice a m cc]) ∧ MakingR w w' v (parseS l).1 ∧ IsInts w' a (parseS l).2 ∧ (parseS l).2.length = m ∧ m ≤ 31 ∧ okL (parseS l).2 = true) ∧ Below w.heap.size w w'

theorem make_record (k : Nat) (w : World) (h : k ≤ 4) :
    (Instr.makeSlice 133 (.int .i64 0) (.int .i64 k)).run Tryz.prog w = .ok (.slice (some ⟨w.heap.size, 0, none⟩) 0 k) (w.alloc (.cells (vals (List.replicate k 0)).toArray 3)) := by
  obtain ⟨i0, hi, hz0, hz1, hz2⟩ := info_parts info_int
  have := run_make (P := Tryz.prog) w 133 3 i0 (.int .i64 0) Tryz.underlying133 hi hz0 .i64 .i64 0 k (by omega) (by omega) (by rw [hz2]; omega) (by omega)
  rw [hz1, Int.toNat_natCast, Nat.mul_one, made_vals] at this
  exact this

theorem one_one (a : Option Addr) (n c : Nat) : ∀ u ∈ [Value.slice a n c], u.oneCell' = true := by
  intro u hu; simp at hu; subst hu; rfl

theorem ownsRow_made (k : Nat) (w w0 : World) (hb : w0.heap.size ≤ w.heap.size) (hk : k ≤ 4) : (w.alloc (.cells (vals (List.replicate k 0)).toArray 3)).ownsRow w0.heap.size 3 1 (.slice (some ⟨w.heap.size, 0, none⟩) 0 k) 0 [] :=
  ⟨rfl, .inr ⟨w.heap.size, k, (vals (List.replicate k 0)).toArray, rfl, hb, heap_alloc_last _ _, Nat.zero_le _, by unfold maxLen; omega, by simp [vals], by simp⟩⟩

set_option maxRecDepth 100000 in
set_option maxHeartbeats 4000000 in
theorem parse_any (a : Option Addr) (n c : Nat) (ws : List Int) (fuel : Int) (s : Nat) (w : World) (h : IsInts w a ws) (hn : ws.length = n) (hc : n ≤ c) (hm : n ≤ 192) (hok : okL ws = true) (hs : s = 0 ∨ s = 1) (h64 : 64 ≤ n) :
    Calls Tryz.prog 169 #[.agg #[.slice a n c, .int .i64 fuel], .int .i64 s] w (ParseAns w (secL ws s)) := by
  obtain ⟨ii, hii, iz0, iz1, iz2⟩ := info_parts info_int
  obtain ⟨irr, hir, rz0, rz1, rz2⟩ := info_parts info_record
  have hw : Below w.heap.size w (w.alloc (.cells #[.slice a n c, .int .i64 fuel] 27)) := (Below.refl _ _).alloc (Nat.le_refl _) _
  have i0 := h.below hw
  have hl31 : (secL ws s).length = 31 := secL_length (by omega)
  have hokl : okL (secL ws s) = true := okL_take _ (okL_drop _ hok)
  obtain ⟨b, off, rfl⟩ := h.nonempty (by omega)
  have il : IsInts (w.alloc (.cells #[.slice (some ⟨b, off, none⟩) n c, .int .i64 fuel] 27)) (some ⟨b, off + (s * 32 + 1), none⟩) (secL ws s) := (i0.drop _).take _
  have il0 : IsInts w (some ⟨b, off + (s * 32 + 1), none⟩) (secL ws s) := (h.drop _).take _
  obtain ⟨l, hl⟩ : ∃ l, l = secL ws s := ⟨_, rfl⟩
  rw [← hl] at il il0 hl31 hokl ⊢
  have HP : Hid (∀ r, longS r = 0 → parseS r = ([], r)) := fun _ => parseS_stop
  have HP2 : Hid (∀ r, longS r ≠ 0 → parseS r = ((r.drop 1).take (longS r) :: (parseS (r.drop (1 + longS r))).1, (parseS (r.drop (1 + longS r))).2)) := fun _ => parseS_step
  have HRS : Hid (∀ (rs : List (List Int)) {q : List (List Int)} {p : List Int}, parseS l = (rs ++ q, p) → rs.length ≤ 1000) := fun rs q p h => by
    have := parseS_few l
    rw [h, List.length_append, hl31] at this
    omega
  clear h hn hl hok i0
  have H31 := hide hl31
  clear hl31
  have hc64 : (64 : Int) ≤ (c : Int) := by omega
  rcases hs with rfl | rfl
  all_goals
    simp only [Nat.zero_mul, Nat.one_mul, Nat.zero_add, Nat.reduceAdd] at il il0
    go_enter Tryz.func169, Tryz.ntmps169
    go_wp2_with fail
    refine (longOf_any _ 31 _ l _ il H31.out (by omega) hokl).mono ?_
    rintro e w1 ⟨rfl, rfl⟩
    go_wp2_with fail
    go_loopw [4, 5, 7] (fun v4 v5 v7 wr => ∃ (rs : List (List Int)) (rest : List Int) (a : Option Addr) (m cc : Nat), v5 = .slice a m cc ∧ v7 = .int .i64 (longS rest) ∧ MakingR w wr v4 rs ∧ IsInts w a rest ∧ Hid (rest.length = m) ∧ m ≤ 31 ∧ m ≤ cc ∧ cc ≤ c ∧ okL rest = true ∧ Hid (parseS l = (rs ++ (parseS rest).1, (parseS rest).2))) (fun _ v _ _ => sliceLen v)
    case atStart => exact ⟨[], l, _, 31, _, rfl, rfl, makingR_nil hw, il0, H31.out, by omega, by omega, by omega, hokl, by show _ = _; simp⟩
    case round =>
      obtain ⟨rs, rest, a, m, cc, rfl, rfl, hmk, hi, hlen, hm31, hcc, hcc2, hokr, hp⟩ := hrel
      obtain ⟨k, hk⟩ : ∃ k, k = longS rest := ⟨_, rfl⟩
      rw [← hk]
      by_cases hk0 : k = 0
      {
      have hx := HP.out rest (by omega)
      have hp' : Hid (parseS l = (rs, rest)) := by show _ = _; rw [hp.out, hx]; simp
      subst hk0
      have HM := hide hmk
      have HI := hide hi
      have HO := hide hokr
      clear hmk hi hokr hx hp hk
      go_wp2
      go_ret2
      refine ⟨⟨_, _, m, cc, rfl, ?_, ?_, ?_, hm31, ?_⟩, HM.out.below⟩
      { rw [hp'.out]; exact HM.out }
      { rw [hp'.out]; exact HI.out.below HM.out.below }
      { rw [hp'.out]; exact hlen.out }
      { rw [hp'.out]; exact HO.out }
      }
      {
      have hkl : k < m := by have := longS_lt (l := rest) (by omega); rw [hlen.out] at this; omega
      have hk4 : k ≤ 4 := by have := longS_le rest; omega
      have hmk1 := fun W => make_record k W hk4
      obtain ⟨b', off', rfl⟩ := hi.nonempty (by rw [hlen.out]; omega)
      obtain ⟨r, hr⟩ : ∃ r, r = (rest.drop 1).take k := ⟨_, rfl⟩
      have hrl : r.length = k := by rw [hr]; simp [hlen.out]; omega
      have ir : IsInts wr (some ⟨b', off' + 1, none⟩) r := by rw [hr]; exact ((hi.drop 1).take k).below hmk.below
      have i1 : (k : Int) < (m : Int) := by omega
      have i2 : (1 : Int) + (k : Int) ≤ (cc : Int) := by omega
      have i3 : (1 : Int) ≤ 1 + (k : Int) := by omega
      have i4 : ¬ cc = 1 := by omega
      have i5 : ¬ k = 0 := hk0
      have i6 : (0 : Int) < (k : Int) := by omega
      have i7 : (0 : Int) ≤ (k : Int) := by omega
      have i8 : IntKind.i64.wrap (1 + (k : Int)) = 1 + (k : Int) := by rw [IntKind.wrap_i64]; omega
      have i9 : (0 : Int) ≤ 1 + (k : Int) := by omega
      have j1 : (1 + (k : Int)).toNat = 1 + k := by omega
      have j2 : 1 + k - 1 = k := by omega
      have j3 : (1 : Int) ≤ (cc : Int) := by omega
      have j4 : 1 < cc := by omega
      obtain ⟨vs, hvo, hvr⟩ := hmk.own
      have HV := hide hvr
      have HM := hide hmk
      have HI := hide hi
      have HR := hide hrl
      have HK := hide hk
      have hsz := hmk.below.size
      have hrs31 : rs.length ≤ 1000 := HRS.out rs hp.out
      have hrow0 : (wr.alloc (.cells (vals (List.replicate k 0)).toArray 3)).ownsRow wr.heap.size 3 1 (.slice (some ⟨wr.heap.size, 0, none⟩) 0 k) 0 [] := ownsRow_made k wr wr (Nat.le_refl _) hk4
      have hnews0 : ∀ j u, (vals r)[j]? = some u → (wr.alloc (.cells (vals (List.replicate k 0)).toArray 3)).drew.cell? ((⟨b', off' + 1, none⟩ : Addr).add j) = some u := news_ints ((ir.alloc _).below (Below.refl _ _).drew)
      clear hmk hi hk0 hk hvr hrl
      go_wp2_with fail
      go_region_held3 (fun _ => True) (trivial)
        ((first
          | (refine step_append_two _ (by rfl) _ _ 133 25 (by rfl) wr.heap.size 3 3 ii _ 1 8 Tryz.underlying133 Tryz.underlying25 hii iz0 iz1 iz2 rfl (by omega) (.slice (some ⟨wr.heap.size, 0, none⟩) 0 k) 0 [] (by rfl) hrow0.drew ⟨b', off' + 1, none⟩ k (cc - 1) (vals r) (by rfl) (by rw [vals_length, HR.out, Nat.mul_one]) hnews0 (vals_one r) (by omega) (by unfold maxLen; omega) (by omega) (by simp) (wr.heap.size + 1) (by simp) ?_; intro g cap w1 hown1 hgrow1 hat1 hlt1; have hB1 : Below wr.heap.size wr w1 := (((Below.refl _ wr).alloc (Nat.le_refl _) _).drew.grown hgrow1 (by simp) (fun k hk => by simp [Value.ownBlock] at hk; omega)); rw [Nat.zero_add] at hown1 ⊢; have q1 := ownCap_of2 (ws := r) hown1 HR.out; have hB2 : Below wr.heap.size wr (w1.alloc (.cells #[.slice (some ⟨g, 0, none⟩) k cap] 133)) := hB1.alloc hB1.size _)
          | (refine step_append_lies _ (by rfl) _ _ 130 (by rfl) w.heap.size 133 irr _ 1 24 Tryz.underlying130 hir rz0 rz1 rz2 rfl (by omega) u4 rs.length vs (by rfl) (ownsRow_below hvo hB2) ⟨w1.heap.size, 0, none⟩ 1 1 [.slice (some ⟨g, 0, none⟩) k cap] (by rfl) rfl (news_one _ _ _) (one_one _ _ _) (by omega) (by unfold maxLen; omega) (by omega) (by have := hB2.size; omega) (w1.heap.size + 1) (by simp) ?_; intro g2 cap2 w2 hown2 hgrow2 hat2 hlt2)))
      have hM2 : MakingR w w2 (.slice (some ⟨g2, 0, none⟩) (rs.length + 1) cap2) (rs ++ [r]) :=
        MakingR.step HM.out.below hvo HV.out hB2 (ownCap_below q1.1 ((Below.refl _ _).alloc (Nat.le_refl _) _)) (by rw [HR.out]; exact q1.2.2.1) q1.2.2.2 (by rw [HR.out]; exact hown2) hgrow2
      have HM2 := hide hM2
      clear hM2 hown1 hown2 hgrow1 hgrow2 hB1 hB2 q1 hvo hrow0 hnews0 hmk1 HV
      have hm2 : m - (1 + k) ≤ 31 := by omega
      have HD : Hid ((rest.drop (1 + k)).length = m - (1 + k)) := by show _ = _; rw [List.length_drop, hlen.out]
      have HO2 : Hid (okL (rest.drop (1 + k)) = true) := okL_drop _ hokr
      have HP3 : Hid (parseS l = ((rs ++ [r]) ++ (parseS (rest.drop (1 + k))).1, (parseS (rest.drop (1 + k))).2)) := by
        show _ = _
        rw [hp.out, HP2.out rest (by rw [← HK.out]; exact i5), ← HK.out, hr]
        simp
      have HI1 : Hid (IsInts w (some ⟨b', off' + (1 + k), none⟩) (rest.drop (1 + k))) := HI.out.drop (1 + k)
      have HI2 : Hid (1 + k = cc → IsInts w (some ⟨b', off', none⟩) (rest.drop (1 + k))) := fun e => .inl (List.eq_nil_of_length_eq_zero (by rw [HD.out]; omega))
      clear hr hokr hp ir
      go_wp2_with fail
      all_goals
        obtain ⟨rest', hrest'⟩ : ∃ q, q = rest.drop (1 + k) := ⟨_, rfl⟩
        rw [← hrest'] at HD HO2 HP3 HI1 HI2
        clear hrest'
        refine (longOf_any _ (m - (1 + k)) _ rest' _ (by first | exact HI1.out.below HM2.out.below | exact (HI2.out (by omega)).below HM2.out.below) HD.out (by omega) HO2.out).mono ?_
        rintro e w3 ⟨rfl, rfl⟩
        go_wp2
        go_roundw
        case rel => exact ⟨rs ++ [r], rest', _, m - (1 + k), _, rfl, rfl, HM2.out, by first | exact HI1.out | exact HI2.out (by omega), HD.out, hm2, by omega, by omega, HO2.out, HP3.out⟩
        case measure => simp [sliceLen]; omega

      }
end Go.Proofs.YtgngpmgjoifepaaGreatDoor

namespace Go.Proofs.YtgngpmgjoifepaaGreatDoor
open Go.RowKit
attribute [local go_sem ↓] Go.wp_at_zero Go.wp_at_succ

theorem isStep_era {w : World} {b s : Nat} (h : w.cell? ⟨b, 0, none⟩ = some (.int .i64 s)) (hs : s ≤ 100) : IsStep w (.func (.func 161) #[] #[.pointer (some ⟨b, 0, none⟩)]) (.era s) := ⟨b, rfl, h, hs⟩
theorem isStep_prg {w : World} {b1 b2 p n c : Nat} {a : Option Addr} {words : List Int} (h1 : w.cell? ⟨b1, 0, none⟩ = some (.int .i64 p)) (h2 : w.cell? ⟨b2, 0, none⟩ = some (.slice a n c)) (h3 : IsInts w a words) (h4 : words.length = n) (h5 : n ≤ 100) (h6 : p ≤ 1000) :
    IsStep w (.func (.func 163) #[] #[.pointer (some ⟨b1, 0, none⟩), .pointer (some ⟨b2, 0, none⟩)]) (.prg p words) := ⟨b1, b2, a, n, c, rfl, h1, h2, h3, h4, h5, h6⟩

theorem isSteps2 {w : World} {b : Nat} {v0 v1 : Value} {s0 s1 : Stp} (h0 : w.cell? ⟨b, 0, none⟩ = some v0) (h1 : w.cell? ⟨b, 1, none⟩ = some v1) (k0 : IsStep w v0 s0) (k1 : IsStep w v1 s1) : IsSteps w (some ⟨b, 0, none⟩) [s0, s1] := by
  refine ⟨b, rfl, fun i st hi => ?_⟩
  match i, hi with
  | 0, hi => simp at hi; subst hi; exact ⟨v0, h0, k0⟩
  | 1, hi => simp at hi; subst hi; exact ⟨v1, h1, k1⟩

theorem isSteps3 {w : World} {b : Nat} {v0 v1 v2 : Value} {s0 s1 s2 : Stp} (h0 : w.cell? ⟨b, 0, none⟩ = some v0) (h1 : w.cell? ⟨b, 1, none⟩ = some v1) (h2 : w.cell? ⟨b, 2, none⟩ = some v2) (k0 : IsStep w v0 s0) (k1 : IsStep w v1 s1) (k2 : IsStep w v2 s2) : IsSteps w (some ⟨b, 0, none⟩) [s0, s1, s2] := by
  refine ⟨b, rfl, fun i st hi => ?_⟩
  match i, hi with
  | 0, hi => simp at hi; subst hi; exact ⟨v0, h0, k0⟩
  | 1, hi => simp at hi; subst hi; exact ⟨v1, h1, k1⟩
  | 2, hi => simp at hi; subst hi; exact ⟨v2, h2, k2⟩

theorem isInts_one {w : World} {b : Nat} {x : Int} (h : w.cell? ⟨b, 0, none⟩ = some (.int .i64 x)) : IsInts w (some ⟨b, 0, none⟩) [x] :=
  .inr ⟨b, 0, rfl, fun i hi => by
    have : i = 0 := by simp at hi; omega
    subst this
    exact h⟩

set_option maxRecDepth 100000 in
set_option maxHeartbeats 400000 in
theorem erasing_eq (s : Int) (w : World) : Calls Tryz.prog 110 #[.int .i64 s] w fun e w' => e = .returned (.func (.func 161) #[] #[.pointer (some ⟨w.heap.size, 0, none⟩)]) ∧ w' = w.alloc (.cells #[.int .i64 s] 3) := by
  go_enter Tryz.func110, Tryz.ntmps110
  go_wp2
  go_ret
  exact ⟨rfl, rfl⟩

set_option maxRecDepth 100000 in
set_option maxHeartbeats 400000 in
theorem programming_eq (p : Int) (v : Value) (w : World) (hv : ∃ a n c, v = .slice a n c) : Calls Tryz.prog 111 #[.int .i64 p, v] w fun e w' => e = .returned (.func (.func 163) #[] #[.pointer (some ⟨w.heap.size, 0, none⟩), .pointer (some ⟨w.heap.size + 1, 0, none⟩)]) ∧ w' = (w.alloc (.cells #[.int .i64 p] 3)).alloc (.cells #[v] 25) := by
  obtain ⟨a, n, c, rfl⟩ := hv
  go_enter Tryz.func111, Tryz.ntmps111
  go_wp2
  go_ret
  exact ⟨rfl, rfl⟩

theorem cell_last {w : World} {cs : Array Value} {t : TypeId} {b i : Nat} {v : Value} (hb : b = w.heap.size) (hv : cs[i]? = some v) : (w.alloc (.cells cs t)).cell? ⟨b, i, none⟩ = some v := by
  subst hb
  exact blk_cell (heap_alloc_last _ _) i _ hv
theorem cell_prev {w : World} {o : Obj} {p : Addr} {v : Value} (h : w.cell? p = some v) : (w.alloc o).cell? p = some v := by
  rw [Below.cell ((Below.refl _ w).alloc (Nat.le_refl _) o) (cell_lt h)]
  exact h

theorem keepBox {W W' : World} {b : Nat} {v0 v1 : Value} (hb : Below W.heap.size W W') (lt : b < W.heap.size) (x0 : W.cell? ⟨b, 0, none⟩ = some v0) (x1 : W.cell? ⟨b, 1, none⟩ = some v1) : W'.cell? ⟨b, 0, none⟩ = some v0 ∧ W'.cell? ⟨b, 1, none⟩ = some v1 :=
  ⟨(hb.cell (p := ⟨b, 0, none⟩) lt).trans x0, (hb.cell (p := ⟨b, 1, none⟩) lt).trans x1⟩

def fmtS (ws : List Int) (fuel : Int) : List Int × Int × Int := if secS ws fuel ≠ 0 then ([], 0, secS ws fuel) else turnS [.era 1, .era 0, .prg 0 [1]] ws fuel

set_option maxRecDepth 100000 in
set_option maxHeartbeats 4000000 in
theorem format_any (a : Option Addr) (n c : Nat) (ws : List Int) (fuel : Int) (w : World) (h : IsInts w a ws) (hn : ws.length = n) (hm : n ≤ maxLen) :
    Calls Tryz.prog 57 #[.agg #[.slice a n c, .int .i64 fuel]] w (Answers w (fmtS ws fuel)) := by
  have HC := hide (fun W (h : IsInts W a ws) => checkSectors_any a n c ws fuel W h hn hm)
  have HT := hide (fun W al cl (h : IsInts W a ws) (hs : IsSteps W al [.era 1, .era 0, .prg 0 [1]]) => inTurn_any a n c ws fuel al 3 cl [.era 1, .era 0, .prg 0 [1]] W h hn hm hs rfl (by decide) (by decide))
  have b0 : ((w.alloc (.cells #[.slice a n c, .int .i64 fuel] 27)).alloc (.cells #[.slice none 0 0, .int .i64 0] 27)).heap[w.heap.size]? = some (.cells #[.slice a n c, .int .i64 fuel] 27 (0, 0)) :=
    blk_alloc (heap_alloc_last _ _) _
  have b2 : ((w.alloc (.cells #[.slice a n c, .int .i64 fuel] 27)).alloc (.cells #[.slice none 0 0, .int .i64 0] 27)).heap[w.heap.size + 1]? = some (.cells #[.slice none 0 0, .int .i64 0] 27 (0, 0)) :=
    by simpa using heap_alloc_last (w.alloc _) _
  have hw : Below w.heap.size w ((w.alloc (.cells #[.slice a n c, .int .i64 fuel] 27)).alloc (.cells #[.slice none 0 0, .int .i64 0] 27)) :=
    ((Below.refl _ _).alloc (Nat.le_refl _) _).alloc (by simp) _
  have i0 := h.below hw
  have B0 := hide b0
  have B2 := hide b2
  clear b0 b2 hn
  go_enter Tryz.func57, Tryz.ntmps57
  go_wp2_with fail
  generalize (w.alloc (.cells #[.slice a n c, .int .i64 fuel] 27)).alloc (.cells #[.slice none 0 0, .int .i64 0] 27) = W at *
  refine (unhide HC _ i0).mono ?_
  rintro e w1 ⟨rfl, hb1⟩
  replace B0 := hide (blk_below B0.out hb1)
  replace B2 := hide (blk_below B2.out hb1)
  replace i0 := i0.below hb1
  replace hw := hw.trans (hb1.mono hw.size)
  clear hb1
  have x0 := blk_cell B0.out 0 _ rfl
  have x1 := blk_cell B0.out 1 _ rfl
  have y0 := blk_cell B2.out 0 _ rfl
  have y1 := blk_cell B2.out 1 _ rfl
  have f0 := blk_free B2.out 0
  have f1 := blk_free B2.out 1
  have lt0 := blk_lt B0.out
  have lt1 := blk_lt B2.out
  by_cases e1 : secS ws fuel = 0
  rotate_left
  {
  have e1' : (secS ws fuel != 0) = true := by simpa using e1
  have hr : Hid (fmtS ws fuel = ([], 0, secS ws fuel)) := by show _ = _; unfold fmtS; rw [if_pos e1]
  go_wp2
  refine bodyPost_ret (v := .tuple #[.agg #[.slice none 0 0, .int .i64 0], .int .i64 (secS ws fuel)]) (by simp [results, Tryz.results57, go_sem, y0, y1]) rfl ?_
  exact answers_err hr.out ((hw.setCell (by simp) _).setCell (by simp) _)
  }
  have e1' : (secS ws fuel != 0) = false := by simpa using e1
  have hr : Hid (fmtS ws fuel = turnS [.era 1, .era 0, .prg 0 [1]] ws fuel) := by show _ = _; unfold fmtS; rw [if_neg (by simpa using e1)]
  clear e1
  have nn := World.new_ne w1 ⟨w.heap.size, 0, none⟩ x0
  go_wp2_with fail
  go_region_held3 (fun w' => w'.cell? ⟨w.heap.size, 0, none⟩ = some (.slice a n c) ∧ w'.cell? ⟨w.heap.size, 1, none⟩ = some (.int .i64 fuel)) (first | exact ⟨by assumption, by assumption⟩ | (refine keepBox ?_ lt0 x0 x1; (repeat (first | exact Below.refl _ _ | refine Below.drew ?_ | refine Below.alloc ?_ (by simp <;> omega) _)); done) | go_keep)
    ((first
      | (go_at_call 110; refine (erasing_eq _ _).mono ?_; rintro e w2 ⟨rfl, rfl⟩)
      | (go_at_call 111; refine (programming_eq _ _ _ ⟨_, _, _, rfl⟩).mono ?_; rintro e w2 ⟨rfl, rfl⟩)
      | (go_at_call 109; refine (unhide HT _ _ _ (i0.below (by repeat (first | exact Below.refl _ _ | refine Below.drew ?_ | refine Below.alloc ?_ (by simp <;> omega) _))) (isSteps3 (by repeat (first | (refine cell_last ?_ rfl; simp; done) | refine cell_prev ?_)) (by repeat (first | (refine cell_last ?_ rfl; simp; done) | refine cell_prev ?_)) (by repeat (first | (refine cell_last ?_ rfl; simp; done) | refine cell_prev ?_)) (isStep_era (by repeat (first | (refine cell_last ?_ rfl; simp; done) | refine cell_prev ?_)) (by omega)) (isStep_era (by repeat (first | (refine cell_last ?_ rfl; simp; done) | refine cell_prev ?_)) (by omega)) (isStep_prg (n := 1) (by repeat (first | (refine cell_last ?_ rfl; simp; done) | refine cell_prev ?_)) (by repeat (first | (refine cell_last ?_ rfl; simp; done) | refine cell_prev ?_)) (isInts_one (by repeat (first | (refine cell_last ?_ rfl; simp; done) | refine cell_prev ?_))) rfl (by omega) (by omega)))).mono ?_; rintro e w6 ⟨⟨a6, n6, c6, rfl, hi6, hn6, hc6, hf6⟩, hb6⟩; have hb7 : Below w1.heap.size w1 w6 := (Below.trans (by repeat (first | exact Below.refl _ _ | refine Below.drew ?_ | refine Below.alloc ?_ (by simp <;> omega) _)) (hb6.mono (by simp; omega))); have z0 : w6.cell? ⟨w.heap.size, 0, none⟩ = some (.slice a n c) := (by rw [hb7.cell lt0]; exact x0); have z1 : w6.cell? ⟨w.heap.size, 1, none⟩ = some (.int .i64 fuel) := (by rw [hb7.cell lt0]; exact x1); have q0 := blk_cell (blk_below B2.out hb7) 0 _ rfl; have q1 := blk_cell (blk_below B2.out hb7) 1 _ rfl; have q2 := blk_free (blk_below B2.out hb7) 0; have q3 := blk_free (blk_below B2.out hb7) 1; have hf7 : FreshA w1.heap.size a6 := FreshA.mono hf6 (by simp; omega))))
  all_goals
    go_wp2
    refine bodyPost_ret (v := .tuple #[.agg #[.slice a6 n6 c6, .int .i64 (turnS [.era 1, .era 0, .prg 0 [1]] ws fuel).2.1], .int .i64 (turnS [.era 1, .era 0, .prg 0 [1]] ws fuel).2.2]) (by simp [results, Tryz.results57, go_sem, q0, q1]) rfl ?_
    rw [hr.out]
    have hw7 := hw.trans (hb7.mono hw.size)
    exact ⟨⟨a6, n6, c6, rfl, (hi6.other hf7 lt1 0 _).other hf7 lt1 1 _, hn6, hc6, FreshA.mono hf7 hw.size⟩, (hw7.setCell (by simp) _).setCell (by simp) _⟩

end Go.Proofs.YtgngpmgjoifepaaGreatDoor
