/- The contract of gate.Due. Plain facts on the texts and the book of the closed fact written; targets and texts just laid. -/
import Derived.Test.YtgngpmgjoifepaaGreatDoorPq24
import Derived.Test.YtgngpmgjoifepaaGreatDoorPq35
import Derived.Test.YtgngpmgjoifepaaGreatDoorPq28
import Derived.Test.YtgngpmgjoifepaaGreatDoorPq12
namespace Go.Proofs.YtgngpmgjoifepaaGreatDoor
open Go.RowKit
attribute [local go_sem ↓] Go.wp_at_zero Go.wp_at_succ

/-- The messages and the error that a call answers. -/
def DuAns (w : World) (r : List Ms × Int) (e : Ending) (w' : World) : Prop := (∃ a n c, e = .returned (.tuple #[.slice a n c, .int .i64 r.2]) ∧ IsMsw w' a r.1 ∧ r.1.length = n ∧ n ≤ c ∧ FreshA w.heap.size a) ∧ Below w.heap.size w w'
theorem duAns_nil {w w' : World} {q : Int} {r : List Ms × Int} (hr : r = ([], q)) (h : Below w.heap.size w w') : DuAns w r (.returned (.tuple #[.slice none 0 0, .int .i64 q])) w' := by
  subst hr
  exact ⟨⟨none, 0, 0, rfl, .inl rfl, rfl, Nat.le_refl _, FreshA.nil _⟩, h⟩
theorem gDue_e {g : Gt} {cn : Int} {ts : List T3} {ims : List (List Int)} {u q : Int} (h : dueE g cn ts ims u = q) (hq : q ≠ 0) : gDue g cn ts ims u = ([], q) := by unfold gDue; rw [h, if_pos hq]
theorem dueE_1 {g : Gt} {cn : Int} {ts : List T3} {ims : List (List Int)} {u : Int} (h : upE g ≠ 0) : dueE g cn ts ims u = upE g := by unfold dueE; rw [if_pos h]
theorem dueE_2 {g : Gt} {cn : Int} {ts : List T3} {ims : List (List Int)} {u : Int} (h : upE g = 0) (h2 : (gOf g.ws).n = 0 ∨ (gOf g.ws).en = true) : dueE g cn ts ims u = 12 := by
  unfold dueE; rw [if_neg (by simpa using h), if_pos (by rcases h2 with h2 | h2 <;> simp [h2])]
theorem dueE_3 {g : Gt} {cn : Int} {ts : List T3} {ims : List (List Int)} {u : Int} (h : upE g = 0) (h2 : (gOf g.ws).n ≠ 0) (h3 : (gOf g.ws).en = false) (h4 : inB u 0 ((g.vo.length : Int) - 1) = false ∨ cn ≠ (gOf g.ws).n ∨ (ims.length : Int) ≤ u ∨ (ts.length : Int) ≤ u) : dueE g cn ts ims u = 5 := by
  unfold dueE; rw [if_neg (by simpa using h), if_neg (by simp [h2, h3]), if_neg]
  rcases h4 with h4 | h4 | h4 | h4
  · simp [h4]
  · simp [h4]
  · simp [show ¬ u < (ims.length : Int) by omega]
  · simp [show ¬ u < (ts.length : Int) by omega]
theorem dueE_0 {g : Gt} {cn : Int} {ts : List T3} {ims : List (List Int)} {u : Int} (h : upE g = 0) (h2 : (gOf g.ws).n ≠ 0) (h3 : (gOf g.ws).en = false) (h4 : inB u 0 ((g.vo.length : Int) - 1) = true) (h5 : cn = (gOf g.ws).n) (h6 : u < (ims.length : Int)) (h7 : u < (ts.length : Int)) : dueE g cn ts ims u = 0 := by
  unfold dueE; rw [if_neg (by simpa using h), if_neg (by simp [h2, h3]), if_pos (by simp [h4, h5, h6, h7])]
/-- What is due, of what is allowed. -/
theorem gDue_d {g : Gt} {cn : Int} {ts : List T3} {ims : List (List Int)} {u : Int} (h : dueE g cn ts ims u = 0) (h2 : decG (gOf g.ws) = true) : gDue g cn ts ims u = (if g.di.getD u.toNat false = true then [] else [verd (gOf g.ws) u (gOf g.ws).n], 0) := by unfold gDue; rw [if_neg (by simpa using h), if_pos h2]
theorem gDue_v {g : Gt} {cn : Int} {ts : List T3} {ims : List (List Int)} {u : Int} (h : dueE g cn ts ims u = 0) (h2 : decG (gOf g.ws) = false) (h3 : g.vo.getD u.toNat false = true) : gDue g cn ts ims u = ([], 0) := by unfold gDue; rw [if_neg (by simpa using h), if_neg (by rw [h2]; decide), if_pos h3]
theorem gDue_m {g : Gt} {cn : Int} {ts : List T3} {ims : List (List Int)} {u : Int} (h : dueE g cn ts ims u = 0) (h2 : decG (gOf g.ws) = false) (h3 : g.vo.getD u.toNat false = false) (h4 : 40 < (ims.getD u.toNat []).length) : gDue g cn ts ims u = ([], 2) := by unfold gDue; rw [if_neg (by simpa using h), if_neg (by rw [h2]; decide), if_neg (by rw [h3]; decide), if_pos h4]
theorem gDue_p {g : Gt} {cn : Int} {ts : List T3} {ims : List (List Int)} {u : Int} (h : dueE g cn ts ims u = 0) (h2 : decG (gOf g.ws) = false) (h3 : g.vo.getD u.toNat false = false) (h4 : ¬ 40 < (ims.getD u.toNat []).length) : gDue g cn ts ims u = (delG cn u (ts.getD u.toNat (0, 0, 0)).2.1 (ims.getD u.toNat []), 0) := by unfold gDue; rw [if_neg (by simpa using h), if_neg (by rw [h2]; decide), if_neg (by rw [h3]; decide), if_neg h4]
theorem bools_at {w : World} {a : Option Addr} {n c : Nat} {bs : List Bool} (h : BV w a n c bs) (u : Nat) (hu : u < bs.length) : ∃ b off, a = some ⟨b, off, none⟩ ∧ w.cell? ⟨b, off + u, none⟩ = some (.bool (bs.getD u false)) := by
  rcases h.at_ with h | ⟨b, off, ha, hc⟩
  · subst h; simp at hu
  · exact ⟨b, off, ha, hc u hu⟩
/-- What region 9 reads. -/
theorem dueR {W W' : World} {B S bd od : Nat} {cs : Array Value} {t : TypeId} {vd : Value} {s : Gs} {x : Bool} (hB : W.heap[B]? = some (.cells cs t (0, 0))) (h8 : cs[8]? = some vd) (hS : W.heap[S]? = some (gsO s)) (hd : W.cell? ⟨bd, od, none⟩ = some (.bool x)) (h : Below W.heap.size W W') :
    W'.cell? ⟨B, 8, none⟩ = some vd ∧ W'.cell? ⟨bd, od, none⟩ = some (.bool x) ∧ (W'.cell? ⟨S, 0, none⟩ = some (.int .i64 s.n) ∧ W'.cell? ⟨S, 1, none⟩ = some (.int .i64 s.v) ∧ W'.cell? ⟨S, 2, none⟩ = some (.bool s.co) ∧ W'.cell? ⟨S, 3, none⟩ = some (.bool s.ab) ∧ W'.cell? ⟨S, 4, none⟩ = some (.bool s.en)) ∧ Below W.heap.size W W' := by
  have x := blk_below hS h
  unfold gsO at x
  exact ⟨blk_cell (blk_below hB h) 8 _ h8, (h.cell (cell_lt hd)).trans hd, ⟨blk_cell x 0 _ rfl, blk_cell x 1 _ rfl, blk_cell x 2 _ rfl, blk_cell x 3 _ rfl, blk_cell x 4 _ rfl⟩, h⟩

set_option maxRecDepth 100000 in
set_option maxHeartbeats 6400000 in
theorem gateDue_any (g : Gt) (k0 : GA) (cn cv cu : Int) (m : CA) (ts : List T3) (ims : List (List Int)) (u : Int) (w : World) (h : GIn w k0 g) (ht : BT w m.at_ m.nt ts) (hi : BL w m.ai m.ni ims) :
    Calls Tryz.prog 44 #[gtv g k0, cpv cn cv cu m, .int .i64 u] w (DuAns w (gDue g cn ts ims u)) := by
  have hw : Below w.heap.size w ((w.alloc (.cells #[.slice k0.a k0.n k0.c, .int .i64 g.fu, .bool g.up, .int .i64 g.t.r.v, .slice k0.ak k0.nk k0.ck, .int .i64 g.t.r.t, .int .i64 g.t.ver, .slice k0.av k0.nv k0.cv, .slice k0.ad k0.nd k0.cd] 68)).alloc (.cells #[.int .i64 cn, .int .i64 cv, .int .i64 cu, .slice m.at_ m.nt m.ct, .slice m.ai m.ni m.ci] 93)) := ((Below.refl _ _).alloc (Nat.le_refl _) _).alloc (by simp) _
  have b0 : Hid (((w.alloc (.cells #[.slice k0.a k0.n k0.c, .int .i64 g.fu, .bool g.up, .int .i64 g.t.r.v, .slice k0.ak k0.nk k0.ck, .int .i64 g.t.r.t, .int .i64 g.t.ver, .slice k0.av k0.nv k0.cv, .slice k0.ad k0.nd k0.cd] 68)).alloc (.cells #[.int .i64 cn, .int .i64 cv, .int .i64 cu, .slice m.at_ m.nt m.ct, .slice m.ai m.ni m.ci] 93)).heap[w.heap.size]? = some (.cells #[.slice k0.a k0.n k0.c, .int .i64 g.fu, .bool g.up, .int .i64 g.t.r.v, .slice k0.ak k0.nk k0.ck, .int .i64 g.t.r.t, .int .i64 g.t.ver, .slice k0.av k0.nv k0.cv, .slice k0.ad k0.nd k0.cd] 68 (0, 0))) := blk_alloc (heap_alloc_last _ _) _
  have b1 : Hid (((w.alloc (.cells #[.slice k0.a k0.n k0.c, .int .i64 g.fu, .bool g.up, .int .i64 g.t.r.v, .slice k0.ak k0.nk k0.ck, .int .i64 g.t.r.t, .int .i64 g.t.ver, .slice k0.av k0.nv k0.cv, .slice k0.ad k0.nd k0.cd] 68)).alloc (.cells #[.int .i64 cn, .int .i64 cv, .int .i64 cu, .slice m.at_ m.nt m.ct, .slice m.ai m.ni m.ci] 93)).heap[w.heap.size + 1]? = some (.cells #[.int .i64 cn, .int .i64 cv, .int .i64 cu, .slice m.at_ m.nt m.ct, .slice m.ai m.ni m.ci] 93 (0, 0))) := uLast1 _ _ _
  have HU := hide (fun W (hW : Below w.heap.size w W) => stateUp_any g k0 W (h.below hW))
  have HN := hide (fun W (hW : Below w.heap.size w W) => isUnit_any g k0 u W (h.below hW))
  have HP := hide h
  have HTs := hide ht
  have HIs := hide hi
  clear h ht hi
  unfold gtv at HU HN
  unfold gtv cpv
  go_enter Tryz.func44, Tryz.ntmps44
  go_wp2_with fail
  generalize ((w.alloc (.cells #[.slice k0.a k0.n k0.c, .int .i64 g.fu, .bool g.up, .int .i64 g.t.r.v, .slice k0.ak k0.nk k0.ck, .int .i64 g.t.r.t, .int .i64 g.t.ver, .slice k0.av k0.nv k0.cv, .slice k0.ad k0.nd k0.cd] 68)).alloc (.cells #[.int .i64 cn, .int .i64 cv, .int .i64 cu, .slice m.at_ m.nt m.ct, .slice m.ai m.ni m.ci] 93)) = W at *
  refine (unhide HU _ hw).mono ?_
  rintro e w1 ⟨rfl, hb⟩
  replace b0 := hide (blk_below b0.out hb)
  replace b1 := hide (blk_below b1.out hb)
  replace hw := hw.trans (hb.mono hw.size)
  clear hb HU
  by_cases z1 : upE g = 0
  rotate_left
  · have HE := hide (gDue_e (dueE_1 (cn := cn) (ts := ts) (ims := ims) (u := u) z1) z1)
    have d1 : (upE g != 0) = true := by simpa using z1
    rw [gUpS_no z1]
    unfold gsv gs0
    replace hw : Below w.heap.size w (w1.alloc (.cells #[.int .i64 0, .int .i64 0, .bool false, .bool false, .bool false] 82)) := hw.alloc hw.size _
    clear z1 HN HP HTs HIs
    generalize upE g = q at *
    go_wp2_with fail
    refine bodyPost_ret (v := .tuple #[.slice none 0 0, .int .i64 q]) (by simp [results, Tryz.results44, go_sem]) rfl ?_
    exact duAns_nil HE.out hw
  rw [gUpS_ok z1]
  have Z1 := hide z1
  obtain ⟨hlw, hlk, hlv, hld⟩ := HP.out.sizes (upE_gt z1)
  have hnd := (gtE_ok (upE_gt z1)).2.2.1
  clear z1 hlw hlk
  obtain ⟨s, hs⟩ : ∃ s, s = gOf g.ws := ⟨_, rfl⟩
  rw [← hs]
  have HS := hide hs
  clear hs
  unfold gsv
  have bS := hide (heap_alloc_last w1 (.cells #[.int .i64 s.n, .int .i64 s.v, .bool s.co, .bool s.ab, .bool s.en] 82))
  have hb7 : Below w1.heap.size w1 (w1.alloc (.cells #[.int .i64 s.n, .int .i64 s.v, .bool s.co, .bool s.ab, .bool s.en] 82)) := below_new (Below.refl _ _) _
  replace b0 := hide (blk_below b0.out hb7)
  replace b1 := hide (blk_below b1.out hb7)
  replace hw := hw.trans (hb7.mono hw.size)
  clear hb7
  go_upto_region 4 with fail
  generalize (w1.alloc (.cells #[.int .i64 s.n, .int .i64 s.v, .bool s.co, .bool s.ab, .bool s.en] 82)) = W1 at *
  generalize w1.heap.size = S at *
  have s0 := blk_cell bS.out 0 _ rfl
  have s1 := blk_cell bS.out 1 _ rfl
  have s2 := blk_cell bS.out 2 _ rfl
  have s3 := blk_cell bS.out 3 _ rfl
  have s4 := blk_cell bS.out 4 _ rfl
  by_cases z2 : s.n = 0
  · have HE := hide (gDue_e (dueE_2 (cn := cn) (ts := ts) (ims := ims) (u := u) Z1.out (.inl (by rw [← HS.out]; exact z2))) (by decide))
    have d2 : (s.n == 0) = true := by simpa using z2
    clear z2 HN HP HTs HIs
    go_wp2_with fail
    refine bodyPost_ret (v := .tuple #[.slice none 0 0, .int .i64 12]) (by simp [results, Tryz.results44, go_sem]) rfl ?_
    exact duAns_nil HE.out hw
  have d2 : (s.n == 0) = false := by simpa using z2
  have Z2 := hide z2
  clear z2
  cases z3 : s.en
  rotate_left
  · have HE := hide (gDue_e (dueE_2 (cn := cn) (ts := ts) (ims := ims) (u := u) Z1.out (.inr (by rw [← HS.out]; exact z3))) (by decide))
    rw [z3] at s4
    clear z3 HN HP HTs HIs
    go_wp2_with fail
    refine bodyPost_ret (v := .tuple #[.slice none 0 0, .int .i64 12]) (by simp [results, Tryz.results44, go_sem]) rfl ?_
    exact duAns_nil HE.out hw
  rw [z3] at s4
  have Z3 := hide z3
  clear z3
  have x0 := blk_cell b0.out 0 _ rfl
  have x1 := blk_cell b0.out 1 _ rfl
  have x2 := blk_cell b0.out 2 _ rfl
  have x3 := blk_cell b0.out 3 _ rfl
  have x4 := blk_cell b0.out 4 _ rfl
  have x5 := blk_cell b0.out 5 _ rfl
  have x6 := blk_cell b0.out 6 _ rfl
  have x7 := blk_cell b0.out 7 _ rfl
  have x8 := blk_cell b0.out 8 _ rfl
  go_wp2_with fail
  refine (unhide HN _ hw).mono ?_
  rintro e w2 ⟨rfl, hb⟩
  replace b0 := hide (blk_below b0.out hb)
  replace b1 := hide (blk_below b1.out hb)
  replace bS := hide (blk_below bS.out hb)
  replace hw := hw.trans (hb.mono hw.size)
  clear hb HN d2 x0 x1 x2 x3 x4 x5 x6 x7 x8 s0 s1 s2 s3 s4
  cases z4 : inB u 0 ((g.vo.length : Int) - 1)
  · have HE := hide (gDue_e (dueE_3 (cn := cn) (ts := ts) (ims := ims) (u := u) Z1.out (by rw [← HS.out]; exact Z2.out) (by rw [← HS.out]; exact Z3.out) (.inl z4)) (by decide))
    clear z4 HP HTs HIs
    go_wp2_with fail
    refine bodyPost_ret (v := .tuple #[.slice none 0 0, .int .i64 5]) (by simp [results, Tryz.results44, go_sem]) rfl ?_
    exact duAns_nil HE.out hw
  have c0 := blk_cell b1.out 0 _ rfl
  have s0 := blk_cell bS.out 0 _ rfl
  have Z4 := hide z4
  obtain ⟨un, hun⟩ : ∃ v : Nat, u = (v : Int) := ⟨u.toNat, by unfold inB at z4; simp at z4; omega⟩
  subst hun
  have hul : un < g.vo.length := by unfold inB at z4; simp at z4; omega
  clear z4
  have c4 := blk_cell b1.out 4 _ rfl
  have c3 := blk_cell b1.out 3 _ rfl
  by_cases z5 : cn = s.n
  rotate_left
  · have HE := hide (gDue_e (dueE_3 (cn := cn) (ts := ts) (ims := ims) (u := un) Z1.out (by rw [← HS.out]; exact Z2.out) (by rw [← HS.out]; exact Z3.out) (.inr (.inl (by rw [← HS.out]; exact z5)))) (by decide))
    have d5 : (cn != s.n) = true := by simpa using z5
    clear z5 HP HTs HIs
    go_wp2_with fail
    refine bodyPost_ret (v := .tuple #[.slice none 0 0, .int .i64 5]) (by simp [results, Tryz.results44, go_sem]) rfl ?_
    exact duAns_nil HE.out hw
  have d5 : (cn != s.n) = false := by simpa using z5
  have Z5 := hide z5
  clear z5
  by_cases z6 : (m.ni : Int) ≤ un
  · have HE := hide (gDue_e (dueE_3 (cn := cn) (ts := ts) (ims := ims) (u := un) Z1.out (by rw [← HS.out]; exact Z2.out) (by rw [← HS.out]; exact Z3.out) (.inr (.inr (.inl (by rw [HIs.out.len]; exact z6))))) (by decide))
    clear HP HTs HIs
    go_wp2_with fail
    refine bodyPost_ret (v := .tuple #[.slice none 0 0, .int .i64 5]) (by simp [results, Tryz.results44, go_sem]) rfl ?_
    exact duAns_nil HE.out hw
  have z6' : (un : Int) < (m.ni : Int) := by omega
  by_cases z7 : (m.nt : Int) ≤ un
  · have HE := hide (gDue_e (dueE_3 (cn := cn) (ts := ts) (ims := ims) (u := un) Z1.out (by rw [← HS.out]; exact Z2.out) (by rw [← HS.out]; exact Z3.out) (.inr (.inr (.inr (by rw [HTs.out.len]; exact z7))))) (by decide))
    clear HP HTs HIs
    go_wp2_with fail
    refine bodyPost_ret (v := .tuple #[.slice none 0 0, .int .i64 5]) (by simp [results, Tryz.results44, go_sem]) rfl ?_
    exact duAns_nil HE.out hw
  have z7' : (un : Int) < (m.nt : Int) := by omega
  have HE0 := hide (dueE_0 (cn := cn) (ts := ts) (ims := ims) (u := un) Z1.out (by rw [← HS.out]; exact Z2.out) (by rw [← HS.out]; exact Z3.out) Z4.out (by rw [← HS.out]; exact Z5.out) (by rw [HIs.out.len]; exact z6') (by rw [HTs.out.len]; exact z7'))
  have hui : un < ims.length := by have := HIs.out.len; omega
  have hut : un < ts.length := by have := HTs.out.len; omega
  clear Z1 Z2 Z3 Z4 Z5
  have s1 := blk_cell bS.out 1 _ rfl
  have s2 := blk_cell bS.out 2 _ rfl
  have s3 := blk_cell bS.out 3 _ rfl
  have s4 := blk_cell bS.out 4 _ rfl
  have HD := hide (fun W => decided_any s W)
  unfold gsv at HD
  go_wp2_with fail
  refine (unhide HD _).mono ?_
  rintro e w3 ⟨rfl, hb⟩
  replace b0 := hide (blk_below b0.out hb)
  replace b1 := hide (blk_below b1.out hb)
  replace bS := hide (blk_below bS.out hb)
  replace hw := hw.trans (hb.mono hw.size)
  clear hb HD d5 c0 c3 c4 z6 z7 s0 s1 s2 s3 s4
  cases z8 : decG s
  rotate_left
  · have HE : Hid (gDue g cn ts ims un = (if g.di.getD un false = true then [] else [verd s un s.n], 0)) := by have e := gDue_d HE0.out (by rw [← HS.out]; exact z8); rw [← HS.out] at e; exact hide e
    obtain ⟨bd, od, had, hdc⟩ := bools_at (HP.out.di.below hw) un (by omega)
    have hud : (un : Int) < (k0.nd : Int) := by have := HP.out.di.len; omega
    have HV := hide (fun W => verdict_any s un s.n W)
    unfold gsv at HV
    clear z8 HP HTs HIs HE0 HS
    generalize g.di.getD un false = x at *
    go_upto_region 9 with fail
    rw [had] at b0
    refine wp_region_held_drew (S := fun W' => W'.cell? ⟨w.heap.size, 8, none⟩ = some (.slice (some ⟨bd, od, none⟩) k0.nd k0.cd) ∧ W'.cell? ⟨bd, od + un, none⟩ = some (.bool x) ∧ (W'.cell? ⟨S, 0, none⟩ = some (.int .i64 s.n) ∧ W'.cell? ⟨S, 1, none⟩ = some (.int .i64 s.v) ∧ W'.cell? ⟨S, 2, none⟩ = some (.bool s.co) ∧ W'.cell? ⟨S, 3, none⟩ = some (.bool s.ab) ∧ W'.cell? ⟨S, 4, none⟩ = some (.bool s.en)) ∧ Below w3.heap.size w3 W') (by kernel_rfl) (dueR b0.out rfl bS.out hdc (Below.refl _ _).drew) ?_
    intro hHeld
    refine wpAnyH_take (i := 0) (v := ?_) (by simp only [List.getElem?_toArray, List.getElem?_cons_zero]; rfl) (by kernel_rfl) (by kernel_rfl) (by kernel_rfl) (by exact fun _ _ _ h => h) (Or.inl ⟨by rfl, ?_⟩) (by assumption) ?_
    rotate_left
    · intro w hSw
      try dsimp only at hSw
      go_simp
      try with_reducible rfl
    try simp only [Act.put, List.setIfInBounds_toArray, List.set_cons_zero, List.set_cons_succ]
    refine wpAnyH_take (i := 1) (v := ?_) (by simp only [List.getElem?_toArray, List.getElem?_cons_zero, List.getElem?_cons_succ]; rfl) (by kernel_rfl) (by kernel_rfl) (by kernel_rfl) (by exact fun _ _ _ h => h) (Or.inl ⟨by rfl, ?_⟩) (by assumption) ?_
    rotate_left
    · intro w hSw
      try dsimp only at hSw
      go_simp
      try with_reducible rfl
    try simp only [Act.put, List.setIfInBounds_toArray, List.set_cons_zero, List.set_cons_succ]
    refine wpAnyH_take (i := 2) (v := ?_) (by simp only [List.getElem?_toArray, List.getElem?_cons_zero, List.getElem?_cons_succ]; rfl) (by kernel_rfl) (by kernel_rfl) (by kernel_rfl) (by exact fun _ _ _ h => h) (Or.inl ⟨by rfl, ?_⟩) (by assumption) ?_
    rotate_left
    · intro w hSw
      try dsimp only at hSw
      go_simp
      try with_reducible rfl
    try simp only [Act.put, List.setIfInBounds_toArray, List.set_cons_zero, List.set_cons_succ]
    refine wpAnyH_take (i := 3) (v := ?_) (by simp only [List.getElem?_toArray, List.getElem?_cons_zero, List.getElem?_cons_succ]; rfl) (by kernel_rfl) (by kernel_rfl) (by kernel_rfl) (by exact fun _ _ _ h => h) (Or.inl ⟨by rfl, ?_⟩) (by assumption) ?_
    rotate_left
    · intro w hSw
      try dsimp only at hSw
      go_simp
      try with_reducible rfl
    try simp only [Act.put, List.setIfInBounds_toArray, List.set_cons_zero, List.set_cons_succ]
    refine wpAnyH_take (i := 4) (v := ?_) (by simp only [List.getElem?_toArray, List.getElem?_cons_zero, List.getElem?_cons_succ]; rfl) (by kernel_rfl) (by kernel_rfl) (by kernel_rfl) (by exact fun _ _ _ h => h) (Or.inl ⟨by rfl, ?_⟩) (by assumption) ?_
    rotate_left
    · intro w hSw
      try dsimp only at hSw
      go_simp
      try with_reducible rfl
    try simp only [Act.put, List.setIfInBounds_toArray, List.set_cons_zero, List.set_cons_succ]
    refine wpAnyH_take (i := 5) (v := ?_) (by simp only [List.getElem?_toArray, List.getElem?_cons_zero, List.getElem?_cons_succ]; rfl) (by kernel_rfl) (by kernel_rfl) (by kernel_rfl) (by exact fun _ _ _ h => h) (Or.inl ⟨by rfl, ?_⟩) (by assumption) ?_
    rotate_left
    · intro w hSw
      try dsimp only at hSw
      go_simp
      try with_reducible rfl
    try simp only [Act.put, List.setIfInBounds_toArray, List.set_cons_zero, List.set_cons_succ]
    refine wpAnyH_take (i := 6) (v := ?_) (by simp only [List.getElem?_toArray, List.getElem?_cons_zero, List.getElem?_cons_succ]; rfl) (by kernel_rfl) (by kernel_rfl) (by kernel_rfl) (by exact fun _ _ _ h => h) (Or.inl ⟨by rfl, ?_⟩) (by assumption) ?_
    rotate_left
    · intro w hSw
      try dsimp only at hSw
      go_simp
      try with_reducible rfl
    try simp only [Act.put, List.setIfInBounds_toArray, List.set_cons_zero, List.set_cons_succ]
    refine wpAnyH_take (i := 7) (v := ?_) (by simp only [List.getElem?_toArray, List.getElem?_cons_zero, List.getElem?_cons_succ]; rfl) (by kernel_rfl) (by kernel_rfl) (by kernel_rfl) (by exact fun _ _ _ h => h) (Or.inl ⟨by rfl, ?_⟩) (by assumption) ?_
    rotate_left
    · intro w hSw
      try dsimp only at hSw
      go_simp
      try with_reducible rfl
    try simp only [Act.put, List.setIfInBounds_toArray, List.set_cons_zero, List.set_cons_succ]
    refine wpAnyH_take (i := 8) (v := ?_) (by simp only [List.getElem?_toArray, List.getElem?_cons_zero, List.getElem?_cons_succ]; rfl) (by kernel_rfl) (by kernel_rfl) (by kernel_rfl) (by exact fun _ _ _ h => h) (Or.inl ⟨by rfl, ?_⟩) (by assumption) ?_
    rotate_left
    · intro w hSw
      try dsimp only at hSw
      go_simp
      try with_reducible rfl
    try simp only [Act.put, List.setIfInBounds_toArray, List.set_cons_zero, List.set_cons_succ]
    refine wpAnyH_ready (rs := [9]) (by kernel_rfl) (by simp) ?_
    refine AllReadyH.cons (by simp only [List.getElem?_toArray, List.getElem?_cons_zero, List.getElem?_cons_succ]; rfl) (fun K hK => ?_) AllReadyH.nil
    go_simp
    refine (unhide HV _).mono ?_
    rintro e w4 ⟨rfl, hb4⟩
    have hk4 := ((Below.refl w3.heap.size w3).drew).trans (hb4.mono ((Below.refl w3.heap.size w3).drew).size)
    go_wp2_with fail
    refine hK.out _ _ (dueR b0.out rfl bS.out hdc hk4) (fun hHeld => ?_)
    clear hK K
    try simp only [Act.put, List.setIfInBounds_toArray, List.set_cons_zero, List.set_cons_succ]
    refine wpAnyH_ready (rs := [10]) (by kernel_rfl) (by simp) ?_
    refine AllReadyH.cons (by simp only [List.getElem?_toArray, List.getElem?_cons_zero, List.getElem?_cons_succ]; rfl) (fun K hK => ?_) AllReadyH.nil
    go_simp
    refine (unless_any x (verd s un s.n) rfl _).mono ?_
    rintro e w5 ⟨⟨al, nl, cl, rfl, hml, hnl, hcl, hfl⟩, hb5⟩
    have hk5 := hk4.trans (hb5.mono hk4.size)
    go_wp2_with fail
    refine hK.out _ _ (dueR b0.out rfl bS.out hdc hk5) (fun hHeld => ?_)
    clear hK K
    try simp only [Act.put, List.setIfInBounds_toArray, List.set_cons_zero, List.set_cons_succ]
    refine wpAnyH_take (i := 11) (v := ?_) (by simp only [List.getElem?_toArray, List.getElem?_cons_zero, List.getElem?_cons_succ]; rfl) (by kernel_rfl) (by kernel_rfl) (by kernel_rfl) (by exact fun _ _ _ h => h) (Or.inl ⟨by rfl, ?_⟩) (by assumption) ?_
    rotate_left
    · intro w hSw
      try dsimp only at hSw
      go_simp
      try with_reducible rfl
    try simp only [Act.put, List.setIfInBounds_toArray, List.set_cons_zero, List.set_cons_succ]
    refine wpAnyH_take (i := 12) (v := ?_) (by simp only [List.getElem?_toArray, List.getElem?_cons_zero, List.getElem?_cons_succ]; rfl) (by kernel_rfl) (by kernel_rfl) (by kernel_rfl) (by exact fun _ _ _ h => h) (Or.inl ⟨by rfl, ?_⟩) (by assumption) ?_
    rotate_left
    · intro w hSw
      try dsimp only at hSw
      go_simp
      try with_reducible rfl
    try simp only [Act.put, List.setIfInBounds_toArray, List.set_cons_zero, List.set_cons_succ]
    refine wpAnyH_done (by kernel_rfl) ?_ _
    go_wp2_with fail
    refine bodyPost_ret (v := .tuple #[.slice al nl cl, .int .i64 0]) (by simp [results, Tryz.results44, go_sem]) rfl ?_
    rw [HE.out]
    exact ⟨⟨al, nl, cl, rfl, hml.msw, hnl, hcl, hfl.lower (Nat.le_trans hw.size hk4.size)⟩, hw.trans (hk5.mono hw.size)⟩
  have Z8 : Hid (decG (gOf g.ws) = false) := by show _ = _; rw [← HS.out]; exact z8
  clear z8 HS bS
  obtain ⟨bv, ov, hav, hvc⟩ := bools_at (HP.out.vo.below hw) un hul
  have huv : (un : Int) < (k0.nv : Int) := by have := HP.out.vo.len; omega
  have x7 := blk_cell b0.out 7 _ rfl
  rw [hav] at x7
  clear hav
  cases z9 : g.vo.getD un false
  rotate_left
  · have HE := hide (gDue_v HE0.out Z8.out z9)
    rw [z9] at hvc
    clear z9 HP HTs HIs HE0 Z8
    go_wp2_with fail
    refine bodyPost_ret (v := .tuple #[.slice none 0 0, .int .i64 0]) (by simp [results, Tryz.results44, go_sem]) rfl ?_
    exact duAns_nil HE.out hw
  rw [z9] at hvc
  have Z9 := hide z9
  clear z9
  obtain ⟨bi, oi, a5, c5, hai, hcell, -, -, -⟩ := lists_at (HIs.out.at_.below hw) un hui
  have c4 := blk_cell b1.out 4 _ rfl
  rw [hai] at c4
  clear hai
  have hgd : ims.getD un [] = ims[un] := by simp [hui]
  by_cases za : 40 < ims[un].length
  · have HE := hide (gDue_m HE0.out Z8.out Z9.out (by rw [Int.toNat_natCast, hgd]; exact za))
    have zaI : (40 : Int) < (ims[un].length : Int) := by omega
    clear HP HTs HIs HE0 Z8 Z9 za hgd
    generalize ims[un].length = L5 at *
    go_wp2_with fail
    refine bodyPost_ret (v := .tuple #[.slice none 0 0, .int .i64 2]) (by simp [results, Tryz.results44, go_sem]) rfl ?_
    exact duAns_nil HE.out hw
  have HE := hide (gDue_p HE0.out Z8.out Z9.out (by rw [Int.toNat_natCast, hgd]; exact za))
  have zaI : ¬ (40 : Int) < (ims[un].length : Int) := by omega
  have HL := hide (delivery_any cn cv cu m ts ims un w3 (HTs.out.below hw) (HIs.out.below hw) hui hut (by rw [hgd]; omega))
  unfold cpv at HL
  rw [Int.toNat_natCast] at HE
  clear HP HTs HIs HE0 Z8 Z9 za hgd
  generalize ims[un].length = L5 at *
  have c0 := blk_cell b1.out 0 _ rfl
  have c1 := blk_cell b1.out 1 _ rfl
  have c2 := blk_cell b1.out 2 _ rfl
  have c3 := blk_cell b1.out 3 _ rfl
  go_upto_region 14 with fail
  clear c4
  have c4 := blk_cell b1.out 4 _ rfl
  go_wp2_with fail
  refine (unhide HL).mono ?_
  rintro e w4 ⟨⟨al, nl, cl, rfl, hml, hnl, hcl, hfl⟩, hb4⟩
  go_wp2_with fail
  refine bodyPost_ret (v := .tuple #[.slice al nl cl, .int .i64 0]) (by simp [results, Tryz.results44, go_sem]) rfl ?_
  rw [HE.out]
  exact ⟨⟨al, nl, cl, rfl, hml, hnl, hcl, hfl.lower hw.size⟩, hw.trans (hb4.mono hw.size)⟩

end Go.Proofs.YtgngpmgjoifepaaGreatDoor

namespace Go.Proofs.YtgngpmgjoifepaaGreatDoor
open Go.RowKit

theorem itoa_dig (n : Nat) (h : n < 10) : Lib.itoa (n : Int) = [UInt8.ofNat (48 + n)] := by
  unfold Lib.itoa
  rw [if_neg (by omega), Int.toNat_natCast, Lib.decDigits_one h]

theorem w7 : wr [7, 0] = [55, 32, 48] := by
  have e7 := itoa_dig 7 (by decide)
  have e0 := itoa_dig 0 (by decide)
  simp only [wr, List.map_cons, List.map_nil]
  rw [show (7 : Int) = ((7 : Nat) : Int) from rfl, show (0 : Int) = ((0 : Nat) : Int) from rfl, e7, e0]
  rfl
theorem w1of (n : Nat) (h : n < 10) : wr [(n : Int)] = [UInt8.ofNat (48 + n)] := by
  simp only [wr, List.map_cons, List.map_nil, Lib.join_one]
  exact itoa_dig n h
end Go.Proofs.YtgngpmgjoifepaaGreatDoor
