/- Plain facts for UnitPieces: an image that comes in pieces, one behind the other, each perhaps twice, is all there; a unit is then ready with it. No program in this text. -/
import Derived.Test.YtanpglfpopbfkabGreatDoorPk40
namespace Go.Proofs.YtanpglfpopbfkabGreatDoor
open Go.RowKit

/-- A unit that has taken k words of an image into slot t; all else as in ws. -/
structure Has (ws image : List Int) (t : Nat) (n : Int) (k : Nat) (x : Un) : Prop where
  fld : Fld ws image t k x.ws
  fu : x.fu = -1
  up : x.up = true
  n : x.n = n
  hv : x.hv = k
/-- What is known of the unit ahead of it all. -/
structure Ahead (ss : List ByteArray) (ws image : List Int) (t : Nat) (n name : Int) : Prop where
  book : bookE ss = 0
  chk : lchk ws (-1) = 0
  len : ws.length = 192
  slot : (t : Int) = oth (stOf ws)
  img : imgE image = 0
  rdy : (stOf ws).rdy = 0
  lo : (stOf ws).by' < n
  lo1 : 1 ≤ n
  hi : n ≤ 8
  nm : inN ss image = name
  nm0 : name ≠ 0

/-- By is a word. -/
theorem stNext_by {s : Us} {r : List Int} (h : okL r = true) (h0 : 0 ≤ s.by') : 0 ≤ (stNext s r).by' := by
  have hg : 0 ≤ r.getD 2 0 := by
    by_cases c : 2 < r.length
    · have := okL_get h 2 c
      unfold okW at this
      simp only [decide_eq_true_eq] at this
      exact this.1
    · rw [List.getD_eq_getElem?_getD, List.getElem?_eq_none (by omega)]
      decide
  unfold stNext
  split
  · exact hg
  · split
    · exact h0
    · split
      · exact h0
      · exact h0
theorem stR_by (rs : List (List Int)) : ∀ (s : Us), (∀ r ∈ rs, okL r = true) → 0 ≤ s.by' → 0 ≤ (rs.foldl stNext s).by' := by
  induction rs with
  | nil => exact fun _ _ h => h
  | cons r rs ih => exact fun s h h0 => ih _ (fun x hx => h x (List.mem_cons_of_mem _ hx)) (stNext_by (h r (List.mem_cons_self ..)) h0)
theorem stOf_by {ws : List Int} {f : Int} (h : lchk ws f = 0) : 0 ≤ (stOf ws).by' := by
  refine stR_by _ _ (parseN_ok _ _ ?_) (by decide)
  exact okL_take _ (okL_drop _ (lchk_parts h).2.2.2.1)
theorem getD_out {xs : List Int} {i : Nat} (h : xs.length ≤ i) : xs.getD i 0 = 0 := by simp [List.getElem?_eq_none h]
theorem Fld.far {ws words G : List Int} {t k : Nat} (h : Fld ws words t k G) (hl : ws.length = 192) : Far t ws G := by
  intro i hi
  by_cases c : i < 192
  · rw [h.at' i c, if_neg (by omega)]
  · rw [getD_out (by rw [h.len]; omega), getD_out (by rw [hl]; omega)]
theorem Ahead.t1 {ss : List ByteArray} {ws image : List Int} {t : Nat} {n name : Int} (h : Ahead ss ws image t n name) : t ≤ 1 := by
  have := stOf_slot h.chk
  have := h.slot
  unfold oth at this
  omega
theorem Ahead.words {ss : List ByteArray} {ws image : List Int} {t : Nat} {n name : Int} (h : Ahead ss ws image t n name) : (1 ≤ image.length ∧ image.length ≤ 40) ∧ okL image = true := by
  have q := imgE_ok h.img
  refine ⟨q.1, okL_of fun i hi => ?_⟩
  have := q.2 image[i] (List.getElem_mem hi)
  unfold okW
  simp [hi]
  exact this
theorem Has.ok {ss : List ByteArray} {ws image : List Int} {t : Nat} {n name : Int} {k : Nat} {x : Un} (h : Has ws image t n k x) (hA : Ahead ss ws image t n name) (hk : k ≤ 40) : unE x = 0 ∧ stOf x.ws = stOf ws := by
  have hf := h.fld.far hA.len
  have hl : x.ws.length = ws.length := h.fld.len.trans hA.len.symm
  refine ⟨unE_0 ?_ h.fld.len ?_, far_st (by omega) hf hl⟩
  · exact lchk_ext hA.chk hl (fun i hi => hf i (.inl (by omega))) h.fld.ok (by rw [h.fu]; decide) (by rw [h.fu]; decide)
  · have := hA.hi
    have := hA.lo1
    rw [h.n, h.hv, inB_t (by omega) (by omega), inB_t (by omega) (by omega)]
    rfl

/-- A piece. -/
def pieM (n : Int) (image : List Int) (p q : Nat) : Ms := ⟨1, 0, n, p, 0, (image.drop p).take (q - p), false⟩
theorem okL_part {xs : List Int} (h : okL xs = true) (p l : Nat) : okL ((xs.drop p).take l) = true := by
  unfold okL at *
  rw [List.all_eq_true] at *
  intro x hx
  exact h x (List.mem_of_mem_drop (List.mem_of_mem_take hx))
theorem pieM_ok {ss : List ByteArray} {ws image : List Int} {t : Nat} {n name : Int} (hA : Ahead ss ws image t n name) {p q : Nat} (hp : p ≤ q) (hq : q ≤ image.length) (h8 : q ≤ p + 8) : msE (pieM n image p q) = 0 := by
  have w := hA.words
  have := hA.lo1
  have := hA.hi
  apply msE_ok
  unfold msB pieM
  simp only [okL_part w.2, inB]
  simp
  omega
theorem clr_fine {ws : List Int} {s : Nat} (hs : s ≤ 1) (e : slotE ws (-1) s = 0) : (clrS ws (-1) s).2.2 = 0 := by
  obtain ⟨hc, hl, -, -⟩ := slotE_parts e
  have q := chk_parts hc
  have e1 : clrAt ws (-1) s 1 = (chg (fun _ _ => 65535) ((2 + s * 2) * 32) 32 ws, -1, 0) := by
    rw [clrAt_go rfl]
    show eraS ws (-1) (2 + (s : Int) * 2 + ((0 : Nat) : Int)) = _
    rw [show 2 + (s : Int) * 2 + ((0 : Nat) : Int) = ((2 + s * 2 : Nat) : Int) by omega]
    exact era_full hc (by omega) hl
  have hc1 : chk (chg (fun _ _ => 65535) ((2 + s * 2) * 32) 32 ws) (-1) = 0 := chk_chg hc _ _ _ (chg_full_ok q.2.2.2) (by decide) (by decide)
  have hl1 : (chg (fun _ _ => 65535) ((2 + s * 2) * 32) 32 ws).length = 192 := by rw [chg_length]; exact hl
  unfold clrS
  rw [if_neg (by simpa using e), clrAt_go (by rw [e1]), e1, show 2 + (s : Int) * 2 + ((1 : Nat) : Int) = ((3 + s * 2 : Nat) : Int) by omega]
  generalize chg (fun _ _ => 65535) ((2 + s * 2) * 32) 32 ws = X at *
  dsimp only
  rw [era_full (k := 3 + s * 2) hc1 (by omega) hl1]

theorem fil_done {ws image : List Int} {t : Nat} {n : Int} {p q : Nat} {x : Un} (h : Has ws image t n p x) (ht : t ≤ 1) (hp : p ≤ q) (hq : q ≤ image.length) (hm : image.length ≤ 40) (hok : okL image = true) :
    ∃ G, doV x (.fil t p ((image.drop p).take (q - p))) = (⟨G, -1, x.up, x.n, x.hv⟩, true) ∧ Fld ws image t q G := by
  rcases fill_step h.fld ht (l := q - p) (by omega) hm with ⟨h1, _⟩ | ⟨_, G, h1, h2⟩
  · rw [okL_part hok] at h1; cases h1
  · refine ⟨G, ?_, by rw [show p + (q - p) = q by omega] at h2; exact h2⟩
    unfold doV doT
    show doU x (fillS x.ws x.fu t p _) = _
    rw [h.fu, h1, doU_0 rfl]
theorem pieceB_did {u y : Un} {s : Us} {m : Ms} (h : u.n = m.n ∧ u.hv = m.at' ∧ (m.ws.length : Int) ≤ 40 - m.at') (hd : doV u (.fil (oth s) m.at' m.ws) = (y, true)) : pieceB u s m = mind y y.n (y.hv + m.ws.length) := by
  unfold pieceB
  rw [if_pos h, hd, if_pos rfl]
/-- The first piece, of a unit that was booted. -/
theorem piece_first {ss : List ByteArray} {ws image : List Int} {t : Nat} {n name : Int} (hA : Ahead ss ws image t n name) {q : Nat} (hq0 : 0 < q) (hq : q ≤ image.length) (h8 : q ≤ 8) :
    ∃ y, hearA ss ⟨ws, -1, true, 0, 0⟩ (pieM n image 0 q) = (y, [], 0) ∧ Has ws image t n q y := by
  have w := hA.words
  have hu : unE ⟨ws, -1, true, 0, 0⟩ = 0 := unE_0 hA.chk hA.len (by show (inB 0 0 8 && inB 0 0 40) = true; decide)
  have hh : heE ss ⟨ws, -1, true, 0, 0⟩ (pieM n image 0 q) = 0 := (heE_3 hA.book hu).trans (pieM_ok hA (by omega) hq (by omega))
  have hE : slotE ws (-1) t = 0 := slotE_ok (lchk_parts hA.chk).1 hA.len hA.t1
  obtain ⟨G, hG, -, hF⟩ := clr_done (words := image) hA.t1 (clr_fine hA.t1 hE)
  have hc : doV ⟨ws, -1, true, 0, 0⟩ (.clr (oth (stOf ws))) = (⟨G, -1, true, 0, 0⟩, true) := by
    rw [← hA.slot]
    unfold doV doT
    show doU _ (clrS ws (-1) t) = _
    rw [hG, doU_0 rfl]
  have hx : Has ws image t n 0 (mind ⟨G, -1, true, 0, 0⟩ n 0) := ⟨hF, rfl, rfl, rfl, rfl⟩
  obtain ⟨G', h1, h2⟩ := fil_done hx hA.t1 (Nat.zero_le q) hq w.1.2 w.2
  have hlo := hA.lo
  refine ⟨⟨G', -1, true, n, q⟩, ?_, ⟨h2, rfl, rfl, rfl, rfl⟩⟩
  rw [hearA_up hh rfl, hearK_1 rfl]
  have hlen : ((image.drop 0).take (q - 0)).length = q := by simp; omega
  have e : pieceS ⟨ws, -1, true, 0, 0⟩ (stOf ws) (pieM n image 0 q) = ⟨G', -1, true, n, q⟩ := by
    unfold pieceS
    rw [if_neg (by rw [hA.rdy]; show ¬ ((0 : Int) ≠ 0 ∨ n ≤ _); omega)]
    have hpa : pieceA ⟨ws, -1, true, 0, 0⟩ (stOf ws) (pieM n image 0 q) = (mind ⟨G, -1, true, 0, 0⟩ n 0, true) := by
      unfold pieceA
      rw [if_pos ⟨rfl, .inr rfl⟩, hc]
      rfl
    rw [hpa]
    show pieceB (mind ⟨G, -1, true, 0, 0⟩ n 0) (stOf ws) (pieM n image 0 q) = _
    rw [pieceB_did (y := ⟨G', -1, true, n, 0⟩) ⟨rfl, rfl, by show (((image.drop 0).take (q - 0)).length : Int) ≤ 40 - 0; rw [hlen]; omega⟩ (by rw [← hA.slot]; exact h1)]
    show (⟨G', -1, true, n, 0 + (((image.drop 0).take (q - 0)).length : Int)⟩ : Un) = _
    rw [hlen, Int.zero_add]
  exact congrArg (fun z => (z, ([] : List Ms), (0 : Int))) e
/-- A further piece. -/
theorem piece_next {ss : List ByteArray} {ws image : List Int} {t : Nat} {n name : Int} (hA : Ahead ss ws image t n name) {p q : Nat} {x : Un} (hx : Has ws image t n p x) (hp0 : 0 < p) (hp : p ≤ q) (hq : q ≤ image.length) (h8 : q ≤ p + 8) :
    ∃ y, hearA ss x (pieM n image p q) = (y, [], 0) ∧ Has ws image t n q y := by
  have w := hA.words
  have ko := hx.ok hA (by omega)
  have hh : heE ss x (pieM n image p q) = 0 := (heE_3 hA.book ko.1).trans (pieM_ok hA hp hq h8)
  obtain ⟨G', h1, h2⟩ := fil_done hx hA.t1 hp hq w.1.2 w.2
  have hlo := hA.lo
  refine ⟨⟨G', -1, true, n, q⟩, ?_, ⟨h2, rfl, rfl, rfl, rfl⟩⟩
  rw [hearA_up hh hx.up, hearK_1 rfl, ko.2]
  have hlen : ((image.drop p).take (q - p)).length = q - p := by simp; omega
  have e : pieceS x (stOf ws) (pieM n image p q) = ⟨G', -1, true, n, q⟩ := by
    unfold pieceS
    rw [if_neg (by rw [hA.rdy]; show ¬ ((0 : Int) ≠ 0 ∨ n ≤ _); omega)]
    have hpa : pieceA x (stOf ws) (pieM n image p q) = (x, true) := by
      unfold pieceA
      rw [if_neg (by show ¬ ((p : Int) = 0 ∧ _); omega)]
    rw [hpa]
    show pieceB x (stOf ws) (pieM n image p q) = _
    rw [pieceB_did (y := ⟨G', -1, x.up, x.n, x.hv⟩) ⟨hx.n, hx.hv, by show (((image.drop p).take (q - p)).length : Int) ≤ 40 - p; rw [hlen]; omega⟩ (by rw [← hA.slot]; exact h1)]
    show (⟨G', -1, x.up, x.n, x.hv + (((image.drop p).take (q - p)).length : Int)⟩ : Un) = _
    rw [hlen, hx.up, hx.n, hx.hv, show (p : Int) + ((q - p : Nat) : Int) = (q : Int) by omega]
  exact congrArg (fun z => (z, ([] : List Ms), (0 : Int))) e
/-- A piece a second time. -/
theorem piece_again {ss : List ByteArray} {ws image : List Int} {t : Nat} {n name : Int} (hA : Ahead ss ws image t n name) {p q : Nat} {x : Un} (hx : Has ws image t n q x) (hp : p < q) (hq : q ≤ image.length) (h8 : q ≤ p + 8) :
    hearA ss x (pieM n image p q) = (x, [], 0) := by
  have w := hA.words
  have ko := hx.ok hA (by omega)
  have hh : heE ss x (pieM n image p q) = 0 := (heE_3 hA.book ko.1).trans (pieM_ok hA (by omega) hq h8)
  rw [hearA_up hh hx.up, hearK_1 rfl, ko.2]
  have e : pieceS x (stOf ws) (pieM n image p q) = x := by
    unfold pieceS
    split
    · rfl
    · have hpa : pieceA x (stOf ws) (pieM n image p q) = (x, true) := by
        unfold pieceA
        rw [if_neg]
        rintro ⟨-, h | h⟩
        · exact h hx.n
        · rw [hx.hv] at h; omega
      rw [hpa]
      show pieceB _ _ _ = _
      unfold pieceB
      rw [if_neg]
      rintro ⟨-, h, -⟩
      rw [hx.hv] at h
      change (q : Int) = (p : Int) at h
      omega
  exact congrArg (fun z => (z, ([] : List Ms), (0 : Int))) e

/-- The Prepare of all of it. -/
def preM (n : Int) (image : List Int) (name : Int) : Ms := ⟨2, 0, n, image.length, name, [], false⟩
theorem Ahead.name60 {ss : List ByteArray} {ws image : List Int} {t : Nat} {n name : Int} (h : Ahead ss ws image t n name) : 1 ≤ name ∧ name ≤ 60 := by
  have h1 := h.nm
  have h0 := h.nm0
  have hb := h.book
  unfold inN nameE at h1
  rw [if_pos h.img, if_pos hb] at h1
  have := nameN_le ss (bs (imgT image))
  have hs : ss.length ≤ 60 := by
    unfold bookE at hb
    split at hb
    · cases hb
    · omega
  omega
theorem fld_body {ws image G : List Int} {t : Nat} (h : Fld ws image t image.length G) (hm : image.length ≤ 40) (ht : t ≤ 1) : (G.drop (68 + 64 * t)).take image.length = image := by
  apply ext_getD
  · simp [h.len]; omega
  · intro i hi
    have hi2 : i < image.length := by simp [h.len] at hi; omega
    have := h.at' (68 + 64 * t + i) (by omega)
    rw [if_pos (by omega), if_pos (by omega), show 68 + 64 * t + i - (68 + 64 * t) = i by omega] at this
    rw [← this]
    simp [hi2]
theorem seal_neg {ws image G : List Int} {t : Nat} {name : Int} (h : Fld ws image t image.length G) (ht : t ≤ 1) (hB : sealB image.length name = true) :
    ∃ H, sealS G (-1) t image.length name = (H, -1, 0) ∧ Sld G t 4 image.length name H := by
  have hE := h.slot (f := -1) (t := t) (by decide) (by decide) ht
  have hc := h.chk (f := -1) (by decide) (by decide)
  have hok := headL_ok hB
  have hp : (64 + 64 * (t : Int)) = ((64 + 64 * t : Nat) : Int) := by omega
  refine ⟨chg (andW (headL image.length name)) (64 + 64 * t) 4 G, ?_, ⟨?_, ?_, ?_⟩⟩
  · unfold sealS
    rw [if_neg (by simpa using hE), if_neg (by simp [hB]), hp, prog_full hc (by rw [headL_len, h.len]; omega) hok, headL_len]
  · rw [chg_length]; exact h.len
  · exact chg_ok h.ok hok (by rw [headL_len]; exact Nat.le_refl _) (by rw [h.len]; omega)
  · intro i hi
    rw [chg_get _ _ _ _ _ (by rw [h.len]; exact hi)]
    by_cases c1 : 64 + 64 * t ≤ i ∧ i < 64 + 64 * t + 4
    · rw [if_pos c1, if_pos c1, h.at' i hi, if_pos (by omega), if_neg (by omega)]
      unfold andW
      exact and_full (okL_get hok _ (by rw [headL_len]; omega))
    · rw [if_neg c1, if_neg c1]
theorem prepare_all {ss : List ByteArray} {ws image : List Int} {t : Nat} {n name : Int} (hA : Ahead ss ws image t n name) {x : Un} (hx : Has ws image t n image.length x) :
    ∃ y, unE y = 0 ∧ (hearA ss x (preM n image name) = (y, [], 0) ∨ hearA ss x (preM n image name) = (y, [voteM (preM n image name) true], 0) ∧ (stOf y.ws).rdy = n ∧ imgS y.ws y.fu t = (image, name, 0)) := by
  have w := hA.words
  have ko := hx.ok hA w.1.2
  have nm := hA.name60
  have hlo := hA.lo
  have hm : msE (preM n image name) = 0 := by
    have := hA.lo1
    have := hA.hi
    apply msE_ok
    unfold msB preM
    simp [okL, inB]
    omega
  have hh : heE ss x (preM n image name) = 0 := (heE_3 hA.book ko.1).trans hm
  have hE : slotE x.ws x.fu t = 0 := by rw [hx.fu]; exact hx.fld.slot (by decide) (by decide) hA.t1
  have hw : bodyS x.ws x.fu (oth (stOf ws)) (preM n image name).at' = (image, 0) := by
    rw [← hA.slot]
    unfold bodyS
    rw [if_neg (by simpa using hE), if_neg (by show ¬ inB (image.length : Int) 0 40 = false; rw [inB_t (by omega) (by omega)]; decide)]
    show ((x.ws.drop (68 + 64 * (t : Int)).toNat).take (image.length : Int).toNat, (0 : Int)) = _
    rw [show (68 + 64 * (t : Int)).toNat = 68 + 64 * t by omega, Int.toNat_natCast, fld_body hx.fld w.1.2 hA.t1]
  have hmt : meantU ss x (stOf ws) (preM n image name) = true := by
    unfold meantU wordsU
    rw [hw]
    have hin : inE ss image = 0 := by unfold inE; rw [if_pos hA.img]; exact hA.book
    show (decide ((0 : Int) = 0) && (decide (inE ss image = 0) && (decide (inN ss image ≠ 0) && decide (inN ss image = name)))) = true
    rw [hin, hA.nm]
    simp [hA.nm0]
  have hB : sealB image.length name = true := by unfold sealB; rw [inB_t (by omega) (by omega), inB_t nm.1 nm.2]; rfl
  obtain ⟨H, hS, hH⟩ := seal_neg hx.fld hA.t1 hB
  have hd : doV x (.sea (oth (stOf ws)) (preM n image name).at' (preM n image name).im) = (⟨H, -1, x.up, x.n, x.hv⟩, true) := by
    rw [← hA.slot]
    unfold doV doT
    show doU x (sealS x.ws x.fu t image.length name) = _
    rw [hx.fu, hS, doU_0 rfl]
  have hi : ∀ f, -1 ≤ f → f ≤ 100000 → imgS H f t = (image, name, 0) := fun f h0 h1 => by
    rw [seal_image hx.fld hH hA.t1 (Nat.le_refl 4) hB h0 h1, if_pos rfl]
  have c := slt_sea (t := oth (stOf ws)) (l := (preM n image name).at') (n := (preM n image name).im) ko.1 (by rw [← hA.slot]; omega)
  rw [hd] at c
  have hst : stOf H = stOf ws := c.st.trans ko.2
  obtain ⟨X, hX⟩ : ∃ X, X = mind (⟨H, -1, x.up, x.n, x.hv⟩ : Un) 0 0 := ⟨_, rfl⟩
  have hXE : unE X = 0 := by
    obtain ⟨h1, h2, _⟩ := unE_ok c.ok
    rw [hX]
    exact unE_0 h1 h2 (by show (inB 0 0 8 && inB 0 0 40) = true; decide)
  have hXs : stOf X.ws = stOf ws := by rw [hX]; exact hst
  have hwh : wholeU X (stOf ws) (preM n image name) image = true := by
    unfold wholeU eqL
    have e : imgS X.ws X.fu (oth (stOf ws)) = (image, name, 0) := by rw [hX, ← hA.slot]; exact hi (-1) (by decide) (by decide)
    rw [e]
    show (decide ((0 : Int) = 0) && (decide (name = name) && decide (image = image))) = true
    simp
  have nn := ntd_step (r := [2, n]) hXE
  rw [hXs] at nn
  have hk : hearA ss x (preM n image name) = ((prepC X (stOf ws) (preM n image name)).1, (prepC X (stOf ws) (preM n image name)).2, 0) := by
    rw [hearA_up hh hx.up, hearK_2 rfl, ko.2]
    have e : prepS ss x (stOf ws) (preM n image name) = prepC X (stOf ws) (preM n image name) := by
      unfold prepS
      rw [if_neg (by show ¬ n ≤ _; omega), if_neg (by simpa using hA.rdy), if_pos ⟨hx.n, hx.hv, hmt⟩]
      unfold prepB
      rw [hd]
      show (if wholeU (mind (⟨H, -1, x.up, x.n, x.hv⟩ : Un) 0 0) (stOf ws) (preM n image name) (wordsU x (stOf ws) (preM n image name)) = true then _ else _) = _
      rw [← hX, show wordsU x (stOf ws) (preM n image name) = image by unfold wordsU; rw [hw], if_pos hwh]
    rw [e]
  have nok := nn.ok
  have nfar := nn.far
  have nyes := nn.yes
  clear nn hwh hmt hw hd hE hh hm c
  cases g : (doV X (.not (stOf ws) [2, n])).2
  · rw [prepC_2 (m := preM n image name) g] at hk
    exact ⟨_, nok, .inl hk⟩
  · rw [prepC_1 (m := preM n image name) g] at hk
    have y := nyes g
    rw [hXs, st_rdy] at y
    refine ⟨_, nok, .inr ⟨hk, by rw [y.1], ?_⟩⟩
    rw [img_keep hXE nok (f := -1) (.inr rfl) (.inl rfl) (by omega) (by have := hA.t1; omega) (fun i a _ => nfar i (by omega)), hX]
    exact hi (-1) (by decide) (by decide)

end Go.Proofs.YtanpglfpopbfkabGreatDoor
