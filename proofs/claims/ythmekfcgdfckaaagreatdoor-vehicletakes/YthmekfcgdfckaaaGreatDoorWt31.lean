/- The contracts of vehicle.hear, arrive. The contract of vehicle.hear, where a unit hears. The contract of vehicle.arrive. The contracts of vehicle.checkCampaign, checkCampaigns, checkMany, firstError, Check. -/
import Derived.Test.YthmekfcgdfckaaaGreatDoorWt30
import Derived.Test.YthmekfcgdfckaaaGreatDoorWt29
set_option maxRecDepth 1000000
set_option maxHeartbeats 0
namespace Go.Proofs.YthmekfcgdfckaaaGreatDoor
variable {K Z:Nat→Prop} {w:World} {a:Option Addr} {l:List Ms} {x:Ms} {v:Vh}
section
open Go.RowKit
attribute [local go_sem ↓] Go.wp_at_zero Go.wp_at_succ
theorem za9.chg {w' :World} (h:za9 w a l) (hc:Chg K w w') (ha: ∀ad,a=some ad→¬K ad.block):za9 w' a l:=by
  rcases h with h| ⟨b,rfl,hi⟩
  { exact .inl h }
  {
  refine .inr ⟨b,rfl,fun i m hm=> ?_⟩;obtain ⟨h0,h1,h2,h3,h4,h5,h6,h7⟩:=hi i m hm;have hb:=ha ⟨b,0,none⟩ rfl;exact⟨h0,hc.cell h1 hb,hc.cell h2 hb,hc.cell h3 hb,hc.cell h4 hb,hc.cell h5 hb,hc.cell h6 hb,hc.cell h7 hb⟩
  }
theorem vs_flat {α:Type} {R:α→List Value→Prop} {k:Nat} (hR: ∀x c,R x c→c.length=k) (hk:0<k): ∀{l:List α} {vs:List Value} (j:Nat) (u:Value),Vs R l vs→vs[j]?=some u→∃x c,l[j / k]?=some x∧R x c∧c[j % k]?=some u
  | [],vs,j,u,h,hu=>by have h:vs= []:=h;subst h;simp at hu
  |x::l,vs,j,u,⟨c,r,e,h1,h2⟩,hu=>by
    have hc:=hR _ _ h1
    by_cases hj:j<k
    {
    rw [e,List.getElem?_append_left (by omega)] at hu;exact⟨x,c,by rw [Nat.div_eq_of_lt hj];rfl,h1,by rw [Nat.mod_eq_of_lt hj];exact hu⟩
    }
    {
    rw [e,List.getElem?_append_right (by omega),hc] at hu;obtain ⟨y,d,q1,q2,q3⟩:=vs_flat hR hk (j - k) u h2 hu;refine⟨y,d, ?_,q2, ?_⟩
    { rw [Nat.div_eq_sub_div hk (by omega)];simpa using q1 }
    { rw [Nat.mod_eq_sub_mod (by omega)];exact q3 }
    }
def HrAns (w:World) (F:Nat) (Z:Nat→Prop) (q:VB) (m:VA) (r:Vh×List Ms×Int) (e:Ending) (w' :World):Prop:=
  (∃a n c,e=.returned (.tuple #[.slice a n c,.int .i64 r.2.2])∧za9 w' a r.2.1∧r.2.1.length=n∧n≤c∧(r.2.2=0→∃m',VOwn w' F Z q m' r.1∧m'.nn=m.nn∧m'.cn=m.cn))∧Below F w w'
theorem msgs_vs (h:za9 w a l) (K:Nat→Prop): ∃vs,IsRow w a vs∧Vs (MR w K) l vs:=by
  rcases h with rfl| ⟨b,rfl,hc⟩
  { exact⟨[],.inl rfl,rfl⟩ }
  {
  refine⟨(l.map fun m=> [Value.int .i64 m.k,.int .i64 m.u,.int .i64 m.n,.int .i64 m.at',.int .i64 m.im,.slice none 0 0,.bool m.y]).flatten, ?_, ?_⟩
  {
  have hv: ∀l:List Ms,Vs (fun (m:Ms) c=>c= [Value.int .i64 m.k,.int .i64 m.u,.int .i64 m.n,.int .i64 m.at',.int .i64 m.im,.slice none 0 0,.bool m.y]) l (l.map fun m=> [Value.int .i64 m.k,.int .i64 m.u,.int .i64 m.n,.int .i64 m.at',.int .i64 m.im,.slice none 0 0,.bool m.y]).flatten:=by
    intro l
    induction l with
    |nil=>exact rfl
    |cons x r ih=>exact⟨_,_,rfl,rfl,ih⟩
  refine .inr ⟨b,0,rfl,fun j u hu=> ?_⟩;obtain ⟨m,c,h1,rfl,h3⟩:=vs_flat (k:=7) (fun x c h=>by rw [h];rfl) (by decide) j u (hv l) hu;obtain ⟨-,c0,c1,c2,c3,c4,c5,c6⟩:=hc _ _ h1;have hj:j=j / 7 * 7+j % 7:=by omega
  have hlt:j % 7<7:=Nat.mod_lt _ (by decide);rw [Nat.zero_add];generalize j / 7=p at *;generalize j % 7=r at *;subst hj
  match r,hlt,h3 with
  |0,_,h3=>cases h3;exact c0
  |1,_,h3=>cases h3;exact c1
  |2,_,h3=>cases h3;exact c2
  |3,_,h3=>cases h3;exact c3
  |4,_,h3=>cases h3;exact c4
  |5,_,h3=>cases h3;exact c5
  |6,_,h3=>cases h3;exact c6
  }
  {
  have: ∀l:List Ms,(∀m∈l,m.ws= [])→Vs (MR w K) l (l.map fun m=> [Value.int .i64 m.k,.int .i64 m.u,.int .i64 m.n,.int .i64 m.at',.int .i64 m.im,.slice none 0 0,.bool m.y]).flatten:=by
    intro l
    induction l with
    |nil=>intro _;exact rfl
    |cons x r ih=>intro hx;exact⟨_,_,rfl,⟨none,0,0,rfl,⟨.inl (hx x (by simp)),by rw [hx x (by simp)];rfl,by decide⟩,.inl (hx x (by simp))⟩,ih (fun m hm=>hx m (by simp [hm]))⟩
  exact this l (fun m hm=>by obtain ⟨i,hi⟩:=List.mem_iff_getElem?.1 hm;exact(hc i m hi).1)
  }
  }
theorem hear_gate (F:Nat) (Z:Nat→Prop) (q:VB) (m:VA) (v:Vh) (x:Ms) (a:Option Addr) (n c:Nat) (w:World) (h:VOwn w F Z q m v) (hk:x.k=3∨x.k=6∨x.k=7):
    Calls Tryz.prog 194 #[.pointer (some ⟨q.B,0,none⟩),msv x a n c] w (HrAns w F Z q m (⟨v.ss,v.sg,(gHear v.g x).1,v.us,v.cs,v.net,v.now⟩,(gHear v.g x).2.1,(gHear v.g x).2.2)):=by
  have hb1:Below w.heap.size w (w.alloc (.cells (aM x a n c) 99)):=bA1;have b1:=hide (heap_alloc_last w (.cells (aM x a n c) 99));have H:=hide (h.below hb1);have HC:=hide (fun W (hW:Below (w.alloc (.cells (aM x a n c) 99)).heap.size (w.alloc (.cells (aM x a n c) 99)) W)=>zoo v.g m.g x a n c W (H.out.g.below hW));unfold gtv msv at HC;have x2: (w.alloc (.cells (aM x a n c) 99)).cell? ⟨q.B,2,none⟩=some (.slice m.g.a m.g.n m.g.c):=zaa H.out.box 2 _ rfl;have x3: (w.alloc (.cells (aM x a n c) 99)).cell? ⟨q.B,3,none⟩=some (.int .i64 v.g.fu):=zaa H.out.box 3 _ rfl;have x4: (w.alloc (.cells (aM x a n c) 99)).cell? ⟨q.B,4,none⟩=some (.bool v.g.up):=zaa H.out.box 4 _ rfl;have x5: (w.alloc (.cells (aM x a n c) 99)).cell? ⟨q.B,5,none⟩=some (.int .i64 v.g.t.r.v):=zaa H.out.box 5 _ rfl;have x6: (w.alloc (.cells (aM x a n c) 99)).cell? ⟨q.B,6,none⟩=some (.slice m.g.ak m.g.nk m.g.ck):=zaa H.out.box 6 _ rfl;have x7: (w.alloc (.cells (aM x a n c) 99)).cell? ⟨q.B,7,none⟩=some (.int .i64 v.g.t.r.t):=zaa H.out.box 7 _ rfl;have x8: (w.alloc (.cells (aM x a n c) 99)).cell? ⟨q.B,8,none⟩=some (.int .i64 v.g.t.ver):=zaa H.out.box 8 _ rfl;have x9: (w.alloc (.cells (aM x a n c) 99)).cell? ⟨q.B,9,none⟩=some (.slice m.g.av m.g.nv m.g.cv):=zaa H.out.box 9 _ rfl;have x10: (w.alloc (.cells (aM x a n c) 99)).cell? ⟨q.B,10,none⟩=some (.slice m.g.ad m.g.nd m.g.cd):=zaa H.out.box 10 _ rfl;obtain ⟨z0,z1,z2,z3,z4,z5,z6⟩:=cl7 b1.out;have HF:=hide h.lt;clear h;unfold msv;have hd: ((x.k==3)=true)∨((x.k==3)=false∧(x.k==6)=true)∨((x.k==3)=false∧(x.k==6)=false∧(x.k==7)=true):=by
    rcases hk with hk|hk|hk
    { exact .inl (by simpa using hk) }
    { exact .inr (.inl ⟨by simp [hk],by simpa using hk⟩) }
    { exact .inr (.inr ⟨by simp [hk],by simp [hk],by simpa using hk⟩) }
  clear hk
  rcases hd with hd| ⟨hd,hd1⟩| ⟨hd,hd1,hd2⟩
  all_goals
    go_enter Tryz.func194,Tryz.ntmps194;go_upto_region 7 with fail
    generalize w.alloc (.cells (aM x a n c) 99)=W1 at *;have hSS:W1.drew.cell? ⟨q.B,2,none⟩=some (.slice m.g.a m.g.n m.g.c)∧W1.drew.cell? ⟨q.B,3,none⟩=some (.int .i64 v.g.fu)∧W1.drew.cell? ⟨q.B,4,none⟩=some (.bool v.g.up)∧W1.drew.cell? ⟨q.B,5,none⟩=some (.int .i64 v.g.t.r.v)∧W1.drew.cell? ⟨q.B,6,none⟩=some (.slice m.g.ak m.g.nk m.g.ck)∧W1.drew.cell? ⟨q.B,7,none⟩=some (.int .i64 v.g.t.r.t)∧W1.drew.cell? ⟨q.B,8,none⟩=some (.int .i64 v.g.t.ver)∧W1.drew.cell? ⟨q.B,9,none⟩=some (.slice m.g.av m.g.nv m.g.cv)∧W1.drew.cell? ⟨q.B,10,none⟩=some (.slice m.g.ad m.g.nd m.g.cd)∧W1.drew.cell? ⟨w.heap.size,0,none⟩=some (.int .i64 x.k)∧W1.drew.cell? ⟨w.heap.size,1,none⟩=some (.int .i64 x.u)∧W1.drew.cell? ⟨w.heap.size,2,none⟩=some (.int .i64 x.n)∧W1.drew.cell? ⟨w.heap.size,3,none⟩=some (.int .i64 x.at')∧W1.drew.cell? ⟨w.heap.size,4,none⟩=some (.int .i64 x.im)∧W1.drew.cell? ⟨w.heap.size,5,none⟩=some (.slice a n c)∧W1.drew.cell? ⟨w.heap.size,6,none⟩=some (.bool x.y):=⟨x2,x3,x4,x5,x6,x7,x8,x9,x10,z0,z1,z2,z3,z4,z5,z6⟩;refine zlm 13 (fun W' =>W'.cell? ⟨q.B,2,none⟩=some (.slice m.g.a m.g.n m.g.c)∧W'.cell? ⟨q.B,3,none⟩=some (.int .i64 v.g.fu)∧W'.cell? ⟨q.B,4,none⟩=some (.bool v.g.up)∧W'.cell? ⟨q.B,5,none⟩=some (.int .i64 v.g.t.r.v)∧W'.cell? ⟨q.B,6,none⟩=some (.slice m.g.ak m.g.nk m.g.ck)∧W'.cell? ⟨q.B,7,none⟩=some (.int .i64 v.g.t.r.t)∧W'.cell? ⟨q.B,8,none⟩=some (.int .i64 v.g.t.ver)∧W'.cell? ⟨q.B,9,none⟩=some (.slice m.g.av m.g.nv m.g.cv)∧W'.cell? ⟨q.B,10,none⟩=some (.slice m.g.ad m.g.nd m.g.cd)∧W'.cell? ⟨w.heap.size,0,none⟩=some (.int .i64 x.k)∧W'.cell? ⟨w.heap.size,1,none⟩=some (.int .i64 x.u)∧W'.cell? ⟨w.heap.size,2,none⟩=some (.int .i64 x.n)∧W'.cell? ⟨w.heap.size,3,none⟩=some (.int .i64 x.at')∧W'.cell? ⟨w.heap.size,4,none⟩=some (.int .i64 x.im)∧W'.cell? ⟨w.heap.size,5,none⟩=some (.slice a n c)∧W'.cell? ⟨w.heap.size,6,none⟩=some (.bool x.y)) (by kernel_rfl) hSS ?_;intro _;refine Utk (i:=0) ?_
    try simp only [sq]
    refine Utk (i:=1) ?_
    try simp only [sq]
    refine Utk (i:=2) ?_
    try simp only [sq]
    refine Utk (i:=3) ?_
    try simp only [sq]
    refine zge (i:=4) (v:= ?_) (by simp only [List.getElem?_toArray,List.getElem?_cons_zero,List.getElem?_cons_succ];rfl) (by simp only [List.getElem?_toArray,List.getElem?_cons_zero,List.getElem?_cons_succ];rfl) (by kernel_rfl) (by exact fun _ _ _ h=>h) (Or.inl ⟨by rfl, ?_⟩) (by first|exact fun _=>hSS|exact fun h=>absurd h (by decide)) ?_;rotate_left
    {
    intro w hSw
    try dsimp only at hSw
    go_simp
    try with_reducible rfl
    }
    try simp only [sq]
    refine zge (i:=5) (v:= ?_) (by simp only [List.getElem?_toArray,List.getElem?_cons_zero,List.getElem?_cons_succ];rfl) (by simp only [List.getElem?_toArray,List.getElem?_cons_zero,List.getElem?_cons_succ];rfl) (by kernel_rfl) (by exact fun _ _ _ h=>h) (Or.inl ⟨by rfl, ?_⟩) (by first|exact fun _=>hSS|exact fun h=>absurd h (by decide)) ?_;rotate_left
    {
    intro w hSw
    try dsimp only at hSw
    go_simp
    try with_reducible rfl
    }
    try simp only [sq]
    refine ze5 (rs:= [6]) (by kernel_rfl) (by simp) ?_;refine(zgm (by rfl) (fun K hK=> ?_) U_nil);go_simp;have hbd:Below W1.heap.size W1 W1.drew:=(Below.refl _ _).drew;refine(zae HC _ hbd).mono ?_;rintro e w3 ⟨⟨k3,a3,n3,c3,rfl,g3,e3,ms3,l3,cc3,fr3⟩,hb3⟩;unfold gtv;replace hbd:Below W1.heap.size W1 w3:=hbd.trans hb3;have H3:=H.out.below hbd;replace b1:=hide (zab b1.out hbd);clear x2 x3 x4 x5 x6 x7 x8 x9 x10 z0 z1 z2 z3 z4 z5 z6 hSS;have x2:=zaa H3.box 2 (.slice m.g.a m.g.n m.g.c) rfl;have f2:w3.frozen? ⟨q.B,2,none⟩=false:=zad H3.box 2;have x3:=zaa H3.box 3 (.int .i64 v.g.fu) rfl;have f3:w3.frozen? ⟨q.B,3,none⟩=false:=zad H3.box 3;have x4:=zaa H3.box 4 (.bool v.g.up) rfl;have f4:w3.frozen? ⟨q.B,4,none⟩=false:=zad H3.box 4;have x5:=zaa H3.box 5 (.int .i64 v.g.t.r.v) rfl;have f5:w3.frozen? ⟨q.B,5,none⟩=false:=zad H3.box 5;have x6:=zaa H3.box 6 (.slice m.g.ak m.g.nk m.g.ck) rfl;have f6:w3.frozen? ⟨q.B,6,none⟩=false:=zad H3.box 6;have x7:=zaa H3.box 7 (.int .i64 v.g.t.r.t) rfl;have f7:w3.frozen? ⟨q.B,7,none⟩=false:=zad H3.box 7;have x8:=zaa H3.box 8 (.int .i64 v.g.t.ver) rfl;have f8:w3.frozen? ⟨q.B,8,none⟩=false:=zad H3.box 8;have x9:=zaa H3.box 9 (.slice m.g.av m.g.nv m.g.cv) rfl;have f9:w3.frozen? ⟨q.B,9,none⟩=false:=zad H3.box 9;have x10:=zaa H3.box 10 (.slice m.g.ad m.g.nd m.g.cd) rfl;have f10:w3.frozen? ⟨q.B,10,none⟩=false:=zad H3.box 10;obtain ⟨z0,z1,z2,z3,z4,z5,z6⟩:=cl7 b1.out;have HW:=hide (H.out.gate hbd g3 e3);have HMs:=hide ms3;have HB:=hide hbd;have hFB:=H.out.fB;have hBw:q.B<W1.drew.heap.size:=zak H.out.box;clear HC H3 g3 e3 hb3 hbd ms3 b1;generalize (gHear v.g x).1=g1 at *;generalize (gHear v.g x).2.1=l1 at *;generalize (gHear v.g x).2.2=r1 at *;refine hK.out _ _ (fun _=>⟨x2,x3,x4,x5,x6,x7,x8,x9,x10,z0,z1,z2,z3,z4,z5,z6⟩) (fun _=> ?_);clear hK K
    try simp only [sq]
    have hSS:w3.cell? ⟨q.B,2,none⟩=some (.slice m.g.a m.g.n m.g.c)∧w3.cell? ⟨q.B,3,none⟩=some (.int .i64 v.g.fu)∧w3.cell? ⟨q.B,4,none⟩=some (.bool v.g.up)∧w3.cell? ⟨q.B,5,none⟩=some (.int .i64 v.g.t.r.v)∧w3.cell? ⟨q.B,6,none⟩=some (.slice m.g.ak m.g.nk m.g.ck)∧w3.cell? ⟨q.B,7,none⟩=some (.int .i64 v.g.t.r.t)∧w3.cell? ⟨q.B,8,none⟩=some (.int .i64 v.g.t.ver)∧w3.cell? ⟨q.B,9,none⟩=some (.slice m.g.av m.g.nv m.g.cv)∧w3.cell? ⟨q.B,10,none⟩=some (.slice m.g.ad m.g.nd m.g.cd)∧w3.cell? ⟨w.heap.size,0,none⟩=some (.int .i64 x.k)∧w3.cell? ⟨w.heap.size,1,none⟩=some (.int .i64 x.u)∧w3.cell? ⟨w.heap.size,2,none⟩=some (.int .i64 x.n)∧w3.cell? ⟨w.heap.size,3,none⟩=some (.int .i64 x.at')∧w3.cell? ⟨w.heap.size,4,none⟩=some (.int .i64 x.im)∧w3.cell? ⟨w.heap.size,5,none⟩=some (.slice a n c)∧w3.cell? ⟨w.heap.size,6,none⟩=some (.bool x.y):=⟨x2,x3,x4,x5,x6,x7,x8,x9,x10,z0,z1,z2,z3,z4,z5,z6⟩;refine Utk (i:=7) ?_
    try simp only [sq]
    refine Utk (i:=8) ?_
    try simp only [sq]
    refine Utk (i:=9) ?_
    try simp only [sq]
    refine Utk (i:=10) ?_
    try simp only [sq]
    refine Utk (i:=11) ?_
    try simp only [sq]
    refine Utk (i:=12) ?_
    try simp only [sq]
    refine ze5 (rs:= [13]) (by kernel_rfl) (by simp) ?_;refine(zgm (by rfl) (fun K hK=> ?_) U_nil);go_simp;refine hK.out _ _ (fun h=>absurd h (by decide)) (fun _=> ?_);clear hK K
    try simp only [sq]
    clear hSS;refine Utk (i:=14) ?_
    try simp only [sq]
    refine Utk (i:=15) ?_
    try simp only [sq]
    refine U_done (by kernel_rfl) ?_ _;go_wp2_with fail;refine bodyPost_ret (v:=.tuple #[.slice a3 n3 c3,.int .i64 r1]) (by simp [results,Tryz.results194,go_sem]) rfl ?_;have hlt:F≤w3.heap.size:=Nat.le_trans (Nat.le_trans HF.out hb1.size) HB.out.size;have hfin:HrAns w F Z q m (⟨v.ss,v.sg,g1,v.us,v.cs,v.net,v.now⟩,l1,r1) (.returned (.tuple #[.slice a3 n3 c3,.int .i64 r1])) (puts w3 q.B 2 (gtL g1 k3)):=
      ⟨⟨a3,n3,c3,rfl,HMs.out.chg (zbn _ _ _ _) (fun ad e hB=>by have:=fr3 ad e;have hx:ad.block=q.B:=hB;have:=hBw;simp at this;omega),l3,cc3,fun _=>⟨_,HW.out,rfl,rfl⟩⟩,(hb1.mono HF.out).trans ((HB.out.mono (Nat.le_trans HF.out hb1.size)).trans (zbd _ hFB hlt))⟩
    exact hfin
end
section
open Go.RowKit
attribute [local go_sem ↓] Go.wp_at_zero Go.wp_at_succ
theorem hear_long {ss:List ByteArray} {u:Un} (hu:u.ws.length=192): (hearA ss u x).1.ws.length=192∨(hearA ss u x).1.ws= []:=by
  unfold hearA
  split
  { exact .inr rfl }
  {
  unfold hearS
  split
  {
  rcases zod ss u x with h|h
  { exact .inl (h.trans hu) }
  { exact .inr h }
  }
  { exact .inl hu }
  }
theorem VOwn.unit2 {w1:World} {F:Nat} {q:VB} {m:VA} (h:VOwn w F Z q m v) (hb:Below w.heap.size w w1) (hg:VBig m) (hZ: ∀b,Z b→Sm w b) {k:Nat} {u u' :Un} {n c:Nat} (hk:v.us[k]?=some u) (hu:BW w1 a n c u'.ws) (hl:u'.ws.length=192∨u'.ws= []):
    VOwn (puts w1 q.bu (k * 5) (unL u' a n c)) F Z q m ⟨v.ss,v.sg,v.g,v.us.set k u',v.cs,v.net,v.now⟩:=
  (h.below hb).setUnit hk hu (by rcases hl with hl|hl;exact zk2 hu.at_ hl hb (h.small hg hZ);exact .inl hl) rfl
theorem msgs_off {F:Nat} {q:VB} {m:VA} (h:VOwn w F Z q m v) {k:Nat} {u:Un} (hk:v.us[k]?=some u) (hm:za9 w a l):l= []∨∀ad,a=some ad→¬ad.block=q.bu:=by
  rcases hm with hm| ⟨b,rfl,hc⟩
  { exact .inl hm }
  {
  cases l with
  |nil=>exact .inl rfl
  |cons x r=>
    refine .inr fun ad e=> ?_
    cases e;intro hb;have hb:b=q.bu:=hb;obtain ⟨-,h1,-⟩:=hc 0 x rfl;have h0:0<v.us.length:=by have:=(List.getElem?_eq_some_iff.1 hk).1;omega
    obtain ⟨y,n,c,-,y0,-⟩:=h.unitAt (List.getElem?_eq_getElem h0);rw [hb] at h1;simp only [Nat.zero_mul] at h1 y0;rw [h1] at y0;cases y0
  }
theorem hear_unit (F:Nat) (Z:Nat→Prop) (q:VB) (m:VA) (v:Vh) (x:Ms) (a:Option Addr) (n c:Nat) (j:Nat) (u:Un) (w:World) (h:VOwn w F Z q m v) (hg:VBig m) (hZ: ∀b,Z b→Sm w b) (hj:x.u= (j:Int)) (hu:v.us[j]?=some u) (hl:u.ws.length=192) (hM:BI w a n x.ws) (hT: ∀W,Below F w W→Tab W)
    (hk3: (x.k==3)=false) (hk6: (x.k==6)=false) (hk7: (x.k==7)=false):
    Calls Tryz.prog 194 #[.pointer (some ⟨q.B,0,none⟩),msv x a n c] w (HrAns w F Z q m (⟨v.ss,v.sg,v.g,v.us.set j (hearA v.ss u x).1,v.cs,v.net,v.now⟩,(hearA v.ss u x).2.1,(hearA v.ss u x).2.2)):=by
  have hb1:Below w.heap.size w (w.alloc (.cells (aM x a n c) 99)):=bA1;have b1:=hide (heap_alloc_last w (.cells (aM x a n c) 99));have HF:=hide h.lt;have H:=hide (h.below hb1);have HZ:Hid (∀b,Z b→Sm (w.alloc (.cells (aM x a n c) 99)) b):=fun b e=>by obtain ⟨cs,t,s1,s2⟩:=hZ b e;exact⟨cs,t,zab s1 hb1,s2⟩
  obtain ⟨ax,nx,cx,q0,y0,y1,y2,y3,y4⟩:=H.out.unitAt hu;have HC:=hide (fun W (hW:Below (w.alloc (.cells (aM x a n c) 99)).heap.size (w.alloc (.cells (aM x a n c) 99)) W)=>znr m.ab m.nb m.cb v.ss u ax nx cx x a n c W (H.out.ss.below hW) (hT W ((hb1.mono HF.out).trans (hW.mono (Nat.le_trans HF.out hb1.size)))) (q0.below hW) ((hM.below hb1).below hW));unfold bookv unv msv at HC;have x11: (w.alloc (.cells (aM x a n c) 99)).cell? ⟨q.B,11,none⟩=some (.slice m.au m.nu m.cu):=zaa H.out.box 11 _ rfl;rw [H.out.us.at_] at x11;have x0: (w.alloc (.cells (aM x a n c) 99)).cell? ⟨q.B,0,none⟩=some (.slice m.ab m.nb m.cb):=zaa H.out.box 0 _ rfl;obtain ⟨z0,z1,z2,z3,z4,z5,z6⟩:=cl7 b1.out;have hnl:=H.out.us.len;have hjl:=(List.getElem?_eq_some_iff.1 hu).1;have hjI: (j:Int)< (m.nu:Int):=by omega
  have HU:=hide hu;have HG:=hide hg;have HL:=hide (hear_long (ss:=v.ss) (x:=x) hl);clear h hnl hjl hu hg hl hM hT hZ q0;unfold msv;have z1' : (w.alloc (.cells (aM x a n c) 99)).cell? ⟨w.heap.size,1,none⟩=some (.int .i64 (j:Int)):=by rw [←hj];exact z1
  have HJ:=hide hj;clear hj;go_enter Tryz.func194,Tryz.ntmps194;go_upto_region 2 with fail
  generalize w.alloc (.cells (aM x a n c) 99)=W1 at *;refine wp_region_held_drew (S:=fun W' =>W'.cell? ⟨q.B,11,none⟩=some (.slice (some ⟨q.bu,0,none⟩) m.nu m.cu)∧W'.cell? ⟨w.heap.size,1,none⟩=some (.int .i64 j)) (by kernel_rfl) ⟨x11,z1'⟩ ?_;intro hHeld;refine Htk (i:=0) ?_
  try simp only [sq]
  refine Htk (i:=1) ?_
  try simp only [sq]
  refine Htk (i:=2) ?_
  try simp only [sq]
  refine Htk (i:=3) ?_
  try simp only [sq]
  refine Htk (i:=4) ?_
  try simp only [sq]
  refine Htk (i:=5) ?_
  try simp only [sq]
  refine Htk (i:=6) ?_
  try simp only [sq]
  refine Htk (i:=7) ?_
  try simp only [sq]
  refine wpAnyH_done (by kernel_rfl) ?_ _;go_upto_region 3 with fail
  clear x11 z1';have hbd:Below W1.heap.size W1 W1.drew:=(Below.refl _ _).drew;generalize W1.drew=X at *;have hX0:=hbd.size;have HY:=hide (And.intro y0 (And.intro y1 (And.intro y2 (And.intro y3 y4))));replace x0:=(hbd.cell (zah x0)).trans x0;replace y0:=(hbd.cell (zah y0)).trans y0;replace y1:=(hbd.cell (zah y1)).trans y1;replace y2:=(hbd.cell (zah y2)).trans y2;replace y3:=(hbd.cell (zah y3)).trans y3;replace y4:=(hbd.cell (zah y4)).trans y4;replace z0:=(hbd.cell (zah z0)).trans z0;replace z1:=(hbd.cell (zah z1)).trans z1;replace z2:=(hbd.cell (zah z2)).trans z2;replace z3:=(hbd.cell (zah z3)).trans z3;replace z4:=(hbd.cell (zah z4)).trans z4;replace z5:=(hbd.cell (zah z5)).trans z5;replace z6:=(hbd.cell (zah z6)).trans z6;have hbe:Below W1.heap.size W1 X.drew:=hbd.drew;have hSS:X.drew.cell? ⟨q.B,0,none⟩=some (.slice m.ab m.nb m.cb)∧X.drew.cell? ⟨q.bu,j * 5,none⟩=some (.slice ax nx cx)∧X.drew.cell? ⟨q.bu,j * 5+1,none⟩=some (.int .i64 u.fu)∧X.drew.cell? ⟨q.bu,j * 5+2,none⟩=some (.bool u.up)∧X.drew.cell? ⟨q.bu,j * 5+3,none⟩=some (.int .i64 u.n)∧X.drew.cell? ⟨q.bu,j * 5+4,none⟩=some (.int .i64 u.hv)∧X.drew.cell? ⟨w.heap.size,0,none⟩=some (.int .i64 x.k)∧X.drew.cell? ⟨w.heap.size,1,none⟩=some (.int .i64 x.u)∧X.drew.cell? ⟨w.heap.size,2,none⟩=some (.int .i64 x.n)∧X.drew.cell? ⟨w.heap.size,3,none⟩=some (.int .i64 x.at')∧X.drew.cell? ⟨w.heap.size,4,none⟩=some (.int .i64 x.im)∧X.drew.cell? ⟨w.heap.size,5,none⟩=some (.slice a n c)∧X.drew.cell? ⟨w.heap.size,6,none⟩=some (.bool x.y):=⟨x0,y0,y1,y2,y3,y4,z0,z1,z2,z3,z4,z5,z6⟩;refine zlm 15 (fun W' =>W'.cell? ⟨q.B,0,none⟩=some (.slice m.ab m.nb m.cb)∧W'.cell? ⟨q.bu,j * 5,none⟩=some (.slice ax nx cx)∧W'.cell? ⟨q.bu,j * 5+1,none⟩=some (.int .i64 u.fu)∧W'.cell? ⟨q.bu,j * 5+2,none⟩=some (.bool u.up)∧W'.cell? ⟨q.bu,j * 5+3,none⟩=some (.int .i64 u.n)∧W'.cell? ⟨q.bu,j * 5+4,none⟩=some (.int .i64 u.hv)∧W'.cell? ⟨w.heap.size,0,none⟩=some (.int .i64 x.k)∧W'.cell? ⟨w.heap.size,1,none⟩=some (.int .i64 x.u)∧W'.cell? ⟨w.heap.size,2,none⟩=some (.int .i64 x.n)∧W'.cell? ⟨w.heap.size,3,none⟩=some (.int .i64 x.at')∧W'.cell? ⟨w.heap.size,4,none⟩=some (.int .i64 x.im)∧W'.cell? ⟨w.heap.size,5,none⟩=some (.slice a n c)∧W'.cell? ⟨w.heap.size,6,none⟩=some (.bool x.y)) (by kernel_rfl) hSS ?_;intro _;refine Utk (i:=0) ?_
  try simp only [sq]
  refine Utk (i:=1) ?_
  try simp only [sq]
  refine Utk (i:=2) ?_
  try simp only [sq]
  refine Utk (i:=3) ?_
  try simp only [sq]
  refine zge (i:=4) (v:= ?_) (by simp only [List.getElem?_toArray,List.getElem?_cons_zero,List.getElem?_cons_succ];rfl) (by simp only [List.getElem?_toArray,List.getElem?_cons_zero,List.getElem?_cons_succ];rfl) (by kernel_rfl) (by exact fun _ _ _ h=>h) (Or.inl ⟨by rfl, ?_⟩) (by first|exact fun _=>hSS|exact fun h=>absurd h (by decide)) ?_;rotate_left
  {
  intro w hSw
  try dsimp only at hSw
  go_simp
  try with_reducible rfl
  }
  try simp only [sq]
  refine Utk (i:=5) ?_
  try simp only [sq]
  refine Utk (i:=6) ?_
  try simp only [sq]
  refine zge (i:=7) (v:= ?_) (by simp only [List.getElem?_toArray,List.getElem?_cons_zero,List.getElem?_cons_succ];rfl) (by simp only [List.getElem?_toArray,List.getElem?_cons_zero,List.getElem?_cons_succ];rfl) (by kernel_rfl) (by exact fun _ _ _ h=>h) (Or.inl ⟨by rfl, ?_⟩) (by first|exact fun _=>hSS|exact fun h=>absurd h (by decide)) ?_;rotate_left
  {
  intro w hSw
  try dsimp only at hSw
  go_simp
  try with_reducible rfl
  }
  try simp only [sq]
  refine zge (i:=8) (v:= ?_) (by simp only [List.getElem?_toArray,List.getElem?_cons_zero,List.getElem?_cons_succ];rfl) (by simp only [List.getElem?_toArray,List.getElem?_cons_zero,List.getElem?_cons_succ];rfl) (by kernel_rfl) (by exact fun _ _ _ h=>h) (Or.inl ⟨by rfl, ?_⟩) (by first|exact fun _=>hSS|exact fun h=>absurd h (by decide)) ?_;rotate_left
  {
  intro w hSw
  try dsimp only at hSw
  go_simp
  try with_reducible rfl
  }
  try simp only [sq]
  refine ze5 (rs:= [9]) (by kernel_rfl) (by simp) ?_;refine(zgm (by rfl) (fun K hK=> ?_) U_nil);go_simp;refine(zae HC _ hbe).mono ?_;rintro e w3 ⟨⟨a3,n3,c3,am,nm,cm,rfl,bw3,ms3,l3,cc3,-⟩,hb3⟩;unfold unv;replace hbe:Below W1.heap.size W1 w3:=bT hbe hb3;have H3:=H.out.below hbe;replace b1:=hide (zab b1.out hbe);have hoff:=msgs_off H3 HU.out ms3;clear x0 y0 y1 y2 y3 y4 z0 z1 z2 z3 z4 z5 z6 hSS hbd hX0;have x0:=zaa H3.box 0 (.slice m.ab m.nb m.cb) rfl;obtain ⟨y0,y1,y2,y3,y4⟩:=HY.out;replace y0:=(hbe.cell (zah y0)).trans y0;replace y1:=(hbe.cell (zah y1)).trans y1;replace y2:=(hbe.cell (zah y2)).trans y2;replace y3:=(hbe.cell (zah y3)).trans y3;replace y4:=(hbe.cell (zah y4)).trans y4;have f0:=H3.unitFree (j * 5);have f1:=H3.unitFree (j * 5+1);have f2:=H3.unitFree (j * 5+2);have f3:=H3.unitFree (j * 5+3);have f4:=H3.unitFree (j * 5+4);obtain ⟨z0,z1,z2,z3,z4,z5,z6⟩:=cl7 b1.out;have HW:=hide (H.out.unit2 hbe HG.out HZ.out HU.out bw3 HL.out);have HMs:=hide ms3;have HB:=hide hbe;have hFB:=H.out.us.lt.1;clear HC H3 bw3 hb3 hbe ms3 b1 HL;generalize (hearA v.ss u x).1=u1 at *;generalize (hearA v.ss u x).2.1=l1 at *;generalize (hearA v.ss u x).2.2=r1 at *;refine hK.out _ _ (fun _=>⟨x0,y0,y1,y2,y3,y4,z0,z1,z2,z3,z4,z5,z6⟩) (fun _=> ?_);clear hK K
  try simp only [sq]
  have hSS:w3.cell? ⟨q.B,0,none⟩=some (.slice m.ab m.nb m.cb)∧w3.cell? ⟨q.bu,j * 5,none⟩=some (.slice ax nx cx)∧w3.cell? ⟨q.bu,j * 5+1,none⟩=some (.int .i64 u.fu)∧w3.cell? ⟨q.bu,j * 5+2,none⟩=some (.bool u.up)∧w3.cell? ⟨q.bu,j * 5+3,none⟩=some (.int .i64 u.n)∧w3.cell? ⟨q.bu,j * 5+4,none⟩=some (.int .i64 u.hv)∧w3.cell? ⟨w.heap.size,0,none⟩=some (.int .i64 x.k)∧w3.cell? ⟨w.heap.size,1,none⟩=some (.int .i64 x.u)∧w3.cell? ⟨w.heap.size,2,none⟩=some (.int .i64 x.n)∧w3.cell? ⟨w.heap.size,3,none⟩=some (.int .i64 x.at')∧w3.cell? ⟨w.heap.size,4,none⟩=some (.int .i64 x.im)∧w3.cell? ⟨w.heap.size,5,none⟩=some (.slice a n c)∧w3.cell? ⟨w.heap.size,6,none⟩=some (.bool x.y):=⟨x0,y0,y1,y2,y3,y4,z0,z1,z2,z3,z4,z5,z6⟩;refine Utk (i:=10) ?_
  try simp only [sq]
  refine Utk (i:=11) ?_
  try simp only [sq]
  refine Utk (i:=12) ?_
  try simp only [sq]
  refine Utk (i:=13) ?_
  try simp only [sq]
  refine Utk (i:=14) ?_
  try simp only [sq]
  refine ze5 (rs:= [15]) (by kernel_rfl) (by simp) ?_;refine(zgm (by rfl) (fun K hK=> ?_) U_nil);go_simp;refine hK.out _ _ (fun h=>absurd h (by decide)) (fun _=> ?_);clear hK K
  try simp only [sq]
  clear hSS;refine Utk (i:=16) ?_
  try simp only [sq]
  refine Utk (i:=17) ?_
  try simp only [sq]
  refine U_done (by kernel_rfl) ?_ _;go_wp2_with fail;refine bodyPost_ret (v:=.tuple #[.slice am nm cm,.int .i64 r1]) (by simp [results,Tryz.results194,go_sem]) rfl ?_;have hlt:F≤w3.heap.size:=Nat.le_trans (Nat.le_trans HF.out hb1.size) HB.out.size;have hms:za9 (puts w3 q.bu (j * 5) (unL u1 a3 n3 c3)) am l1:=by
    rcases hoff with hoff|hoff
    { exact .inl hoff }
    { exact HMs.out.chg (zbn _ _ _ _) hoff }
  have hfin:HrAns w F Z q m (⟨v.ss,v.sg,v.g,v.us.set j u1,v.cs,v.net,v.now⟩,l1,r1) (.returned (.tuple #[.slice am nm cm,.int .i64 r1])) (puts w3 q.bu (j * 5) (unL u1 a3 n3 c3)):=
    ⟨⟨am,nm,cm,rfl,hms,l3,cc3,fun _=>⟨_,HW.out,rfl,rfl⟩⟩,(hb1.mono HF.out).trans ((HB.out.mono (Nat.le_trans HF.out hb1.size)).trans (zbd _ hFB hlt))⟩
  exact hfin
end
section
open Go.RowKit
attribute [local go_sem ↓] Go.wp_at_zero Go.wp_at_succ
structure VOk (w:World) (F:Nat) (Z:Nat→Prop) (m:VA) (v:Vh):Prop where
  big:VBig m
  nn:m.nn≤24
  uns:unsE v.us v.g.vo.length=0
  net:netE v.us.length v.net=0
  zs: ∀b,Z b→Sm w b
  zf: ∀b,Z b→b<F
  tab: ∀W,Below F w W→Tab W
theorem zhn {units:Nat} (h:netE units l=0) (hx:x∈l):msE x=0∧x.u< (units:Int):=by
  have: ∀(l:List Ms),za0 (l.map (ntE units))=0→∀x∈l,ntE units x=0:=by
    intro l
    induction l with
    |nil=>intro _ x hx;cases hx
    |cons y r ih=>
      intro h0 x hx;simp only [List.map_cons,za0] at h0
      by_cases hy:ntE units y=0
      {
      rw [if_neg (by simpa using hy)] at h0
      rcases List.mem_cons.1 hx with e|e
      { rw [e];exact hy }
      { exact ih h0 x e }
      }
      { rw [if_pos hy] at h0;exact absurd h0 hy }
  have hn:=this l h x hx;unfold ntE at hn
  split at hn
  { rename_i h1;exact absurd hn h1 }
  {
  rename_i h1
  split at hn
  { cases hn }
  {
  rename_i h2
  exact⟨Classical.byContradiction h1,by omega⟩
  }
  }
theorem zic (h:msE x=0):0≤x.u∧x.ws.length≤8:=by
  unfold msE at h
  split at h
  {
  rename_i h1
  unfold msB inB at h1
  simp at h1
  omega
  }
  { cases h }
def comR (v:Vh) (x:Ms):Vh×List Ms×Int:=
  if x.k=3∨x.k=6∨x.k=7 then(⟨v.ss,v.sg,(gHear v.g x).1,v.us,v.cs,v.net,v.now⟩,(gHear v.g x).2.1,(gHear v.g x).2.2)
  else(⟨v.ss,v.sg,v.g,v.us.set x.u.toNat (hearA v.ss (v.us.getD x.u.toNat un9) x).1,v.cs,v.net,v.now⟩,(hearA v.ss (v.us.getD x.u.toNat un9) x).2.1,(hearA v.ss (v.us.getD x.u.toNat un9) x).2.2)
theorem com_e (h: (comR v x).2.2≠0): (comeS v x).2= (comR v x).2.2:=by
  unfold comR at h⊢;unfold comeS
  split at h
  { rename_i hk;rw [if_pos hk,if_pos hk,if_pos h] }
  { rename_i hk;rw [if_neg hk,if_neg hk,if_pos h] }
theorem com_0 (h: (comR v x).2.2=0):comeS v x= (⟨(comR v x).1.ss,(comR v x).1.sg,(comR v x).1.g,(comR v x).1.us,(comR v x).1.cs,sendS (comR v x).1.net (comR v x).2.1,(comR v x).1.now⟩,0):=by
  unfold comR at h⊢;unfold comeS
  split at h
  { rename_i hk;rw [if_pos hk,if_pos hk,if_neg (by simpa using h)] }
  { rename_i hk;rw [if_neg hk,if_neg hk,if_neg (by simpa using h)] }
theorem hear_any' (F:Nat) (Z:Nat→Prop) (q:VB) (m:VA) (v:Vh) (x:Ms) (a:Option Addr) (n c:Nat) (w:World) (h:VOwn w F Z q m v) (hg:VBig m) (hZ: ∀b,Z b→Sm w b) (hu:unsE v.us v.g.vo.length=0) (hx0:0≤x.u) (hx1:x.u< (v.us.length:Int)) (hM:BI w a n x.ws) (hT: ∀W,Below F w W→Tab W):
    Calls Tryz.prog 194 #[.pointer (some ⟨q.B,0,none⟩),msv x a n c] w (HrAns w F Z q m (comR v x)):=by
  by_cases hk:x.k=3∨x.k=6∨x.k=7
  {
  unfold comR;rw [if_pos hk];exact hear_gate F Z q m v x a n c w h hk
  }
  {
  unfold comR;rw [if_neg hk];have hj:x.u.toNat<v.us.length:=by omega
  have hku:v.us[x.u.toNat]?=some v.us[x.u.toNat]:=List.getElem?_eq_getElem hj;rw [show v.us.getD x.u.toNat un9=v.us[x.u.toNat] by simp [hj]];exact hear_unit F Z q m v x a n c x.u.toNat _ w h hg hZ (by omega) hku (zk0 (zj6 hu hku)) hM hT (by simp;intro e;exact hk (.inl e)) (by simp;intro e;exact hk (.inr (.inl e))) (by simp;intro e;exact hk (.inr (.inr e)))
  }
theorem zqd (F:Nat) (Z:Nat→Prop) (q:VB) (m:VA) (v:Vh) (k:Int) (w:World) (h:VOwn w F Z q m v) (ok:VOk w F Z m v):
    Calls Tryz.prog 126 #[.pointer (some ⟨q.B,0,none⟩),.int .i64 k] w (HV w F Z q.B (arrS v k)):=by
  cases hk:isM v k
  {
  have HE:Hid (arrS v k= (vh0,5)):=by unfold arrS;rw [if_pos hk];exact rfl
  have HN:=hide (take_no F Z q m v k w h hk);have hlt:=h.lt;clear hk h ok;unfold msv ms9 at HN;go_enter Tryz.func126,Tryz.ntmps126;go_wp2_with fail;refine(zae HN).mono ?_;rintro e w1 ⟨rfl,hb⟩;have hb2:Below w.heap.size w (w1.alloc (.cells #[.int .i64 0,.int .i64 0,.int .i64 0,.int .i64 0,.int .i64 0,.slice none 0 0,.bool false] 99)):=hb.alloc hb.size _;go_wp2_with fail;go_ret;exact zbs (by rw [HE.out]) (by decide) (hb2.mono hlt)
  }
  obtain ⟨j,rfl⟩: ∃j:Nat,k= (j:Int):=⟨k.toNat,by unfold isM inB at hk;simp at hk;omega⟩;have hj:j<v.net.length:=by unfold isM inB at hk;simp at hk;omega
  have hku:v.net[j]?=some v.net[j]:=List.getElem?_eq_getElem hj;obtain ⟨hms,hxu⟩:=zhn ok.net (List.getElem_mem hj);obtain ⟨hx0,-⟩:=zic hms;have HR:Hid (arrS v j=comeS (takeM v j) v.net[j]):=by
    unfold arrS;rw [if_neg (by rw [hk];decide)];simp only [Int.toNat_natCast];rw [show v.net.getD j ms9=v.net[j] by simp [hj]];exact rfl
  have HN:=hide (znt F Z q m v j _ w h hku (by have:=ok.big.2.2;omega));have HO:=hide ok;have hFB:=h.fB;clear hk h ok hku hms;generalize v.net[j]=x at *;clear hj;go_enter Tryz.func126,Tryz.ntmps126;go_wp2_with fail;refine(zae HN).mono ?_;rintro e w1 ⟨⟨a,n,c,rfl,bi,-⟩,H1,hb⟩;unfold msv;have hb1:Below w1.heap.size w1 (w1.alloc (.cells (aM x a n c) 99)):=bA1;have b1:=hide (heap_alloc_last w1 (.cells (aM x a n c) 99));have H2:=hide (H1.below hb1);have hb2:Below F w (w1.alloc (.cells (aM x a n c) 99)):=hb.trans (hb1.mono H1.lt);have HC:=hide (hear_any' F Z q _ (takeM v j) x a n c _ H2.out HO.out.big (fun b e=>by obtain ⟨cs,t,s1,s2⟩:=HO.out.zs b e;exact⟨cs,t,by rw [hb2.block b (HO.out.zf b e)];exact s1,s2⟩) HO.out.uns hx0 hxu (bi.below hb1) (fun W hW=>HO.out.tab W (hb2.trans hW)));unfold msv at HC;obtain ⟨z0,z1,z2,z3,z4,z5,z6⟩:=cl7 b1.out;have HB2:=hide hb2;have hn24:m.nn - 1≤24:=by have:=HO.out.nn;omega
  clear HN bi H1 hb hb1 b1 hb2 HO hxu hx0;go_upto_region 4 with fail
  generalize w1.alloc (.cells (aM x a n c) 99)=W2 at *;go_wp2_with fail;refine(zae HC).mono ?_;rintro e w3 ⟨⟨a3,n3,c3,rfl,ms3,l3,cc3,hv3⟩,hb3⟩;clear z0 z1 z2 z3 z4 z5 z6 HC;have HE:=hide (com_e (v:=takeM v j) (x:=x));have H0:=hide (com_0 (v:=takeM v j) (x:=x));have HB3:=hide (HB2.out.trans hb3);generalize comR (takeM v j) x=r at *
  by_cases hz:r.2.2=0
  rotate_left
  {
  have d: (r.2.2 !=0)=true:=by simpa using hz
  have HEr:=hide ((congrArg Prod.snd HR.out).trans (HE.out hz));have HZ:=hide hz;clear hz hv3;generalize r.2.2=y at *;go_wp2_with fail;go_ret;exact zbs HEr.out HZ.out HB3.out
  }
  have d: (r.2.2 !=0)=false:=by simpa using hz
  obtain ⟨m3,H3,e1,e2⟩:=hv3 hz;have HEr:=hide (HR.out.trans (H0.out hz));obtain ⟨mv,hr3,hv3⟩:=msgs_vs ms3 (KV Z q);have HS:=hide (zgs F Z q m3 r.1 a3 n3 c3 r.2.1 mv w3 H3 (by rw [e1];exact hn24) hr3 hv3 l3 cc3);clear hz ms3 hr3 hv3 e1 e2 HE H0 l3 cc3;generalize r.2.2=y at *;go_wp2_with fail;refine(zae HS).mono ?_;rintro e w4 ⟨rfl,hs4⟩;go_wp2_with fail;go_ret;exact zif HEr.out hs4 HB3.out
end
section
open Go.RowKit
attribute [local go_sem ↓] Go.wp_at_zero Go.wp_at_succ
theorem zja {w' :World} {m:CA} {x:Cp} (h:CI w K m x) (hb:Below w.heap.size w w'):CI w' K m x:=by
  obtain ⟨vs,r1,r2,r3⟩:=h.row;exact⟨h.ts.below hb,h.ot,h.ims.below hb,⟨vs,r1.below hb,r2.mono (LR.chg (.of hb K)),r3⟩⟩
theorem zii (x:Cp) (m:CA) (K:Nat→Prop) (i:Nat) (units:Nat) (w:World) (h:CI w K m x):
    Calls Tryz.prog 147 #[cpv x.n x.v x.u m,.int .i64 ((i:Int)+1),.int .i64 units] w fun e w' =>e=.returned (.int .i64 (cpE units i x))∧Below w.heap.size w w' :=by
  have hni:=h.ims.len;have hnt:=h.ts.len;have hw:Below w.heap.size w (w.alloc (.cells (aC x m) 94)):=bA1;have b0:=hide (heap_alloc_last w (.cells (aC x m) 94));have x0:=zaa b0.out 0 _ rfl;have x3:=zaa b0.out 3 _ rfl;have x4:=zaa b0.out 4 _ rfl;have hmi:=h.ims.max;have HH:=hide h;clear h;unfold cpv
  by_cases z0:x.n= (i:Int)+1
  rotate_left
  {
  have HE:Hid (cpE units i x=4):=by unfold cpE;rw [if_pos (.inl z0)];exact rfl
  have d: (x.n != (i:Int)+1)=true:=by simpa using z0
  clear z0 hni hnt;go_enter Tryz.func147,Tryz.ntmps147;go_wp2_with fail;go_ret;exact⟨zao HE.out.symm,hw⟩
  }
  have d0: (x.n != (i:Int)+1)=false:=by simpa using z0
  have Z0:=hide z0;clear z0
  by_cases z1:m.ni=units
  rotate_left
  {
  have HE:Hid (cpE units i x=4):=by unfold cpE;rw [if_pos (.inr (.inl (by rw [hni];exact z1)))];exact rfl
  have d: ((m.ni:Int) != (units:Int))=true:=by simp;omega
  clear z1 hni hnt;go_enter Tryz.func147,Tryz.ntmps147;go_wp2_with fail;go_ret;exact⟨zao HE.out.symm,hw⟩
  }
  have d1: ((m.ni:Int) != (units:Int))=false:=by simp;omega
  have Z1:=hide z1;clear z1
  by_cases z2:m.nt=units
  rotate_left
  {
  have HE:Hid (cpE units i x=4):=by unfold cpE;rw [if_pos (.inr (.inr (by rw [hnt];exact z2)))];exact rfl
  have d: ((m.nt:Int) != (units:Int))=true:=by simp;omega
  clear z2 hni hnt;go_enter Tryz.func147,Tryz.ntmps147;go_wp2_with fail;go_ret;exact⟨zao HE.out.symm,hw⟩
  }
  have d2: ((m.nt:Int) != (units:Int))=false:=by simp;omega
  have HQ:Hid (cpE units i x=if za0 (x.ims.map imgE)≠0 then za0 (x.ims.map imgE) else relE x.v x.u x.ts):=by
    unfold cpE;rw [if_neg (by rintro (h|h|h);exact h Z0.out;exact h (by rw [hni];exact Z1.out);exact h (by rw [hnt];exact z2))];exact rfl
  have HN:=hide hni;clear z2 Z0 Z1 hni hnt;have hnI: (m.ni:Int)≤9223372036854775807:=by unfold maxLen at hmi;omega
  go_enter Tryz.func147,Tryz.ntmps147;go_wp2_with fail;generalize w.alloc (.cells (aC x m) 94)=W0 at *;clear d0 d1 d2 x0 x3 x4
  go_loopw [32] (fun i wq=>∃k:Nat,k≤m.ni∧i=.int .i64 k∧Hid (Below W0.heap.size W0 wq)∧Hid (∀j,j<k→(x.ims.map imgE).getD j 0=0)) (fun i _=>m.ni - (intOf i).toNat)
  case atStart=>exact⟨0,by omega,rfl,Below.refl _ _,fun j hj=>absurd hj (by omega)⟩
  case round=>
    obtain ⟨wq,rfl⟩: ∃wq:World,wq=wr:=⟨_,rfl⟩;obtain ⟨k,hk,rfl,hB,hZ⟩:=hrel
    by_cases hkn:k<m.ni
    {
    have hkI: (k:Int)< (m.ni:Int):=by omega
    have hul:k<x.ims.length:=by rw [HN.out];exact hkn
    obtain ⟨b,off,ax,cx,hax,y0,q0,qc,qm⟩:=zfd HH.out.ims.at_ k hul;have HU:=hide (fun W (hW:Below w.heap.size w W)=>zd9 ax x.ims[k].length cx x.ims[k] W (q0.below hW) rfl (Nat.le_trans qc qm));have HM:Hid ((x.ims.map imgE)[k]?=some (imgE x.ims[k])):=by show _=_;simp [hul]
    generalize x.ims[k]=u at *;rw [hax];have hwq:=hw.trans (hB.out.mono hw.size);replace y0:=(hwq.cell (zah y0)).trans y0;clear q0 hul hax;go_wp2_with fail;refine(zae HU _ hwq).mono ?_;rintro e w3 ⟨rfl,hw3⟩;have hb3:Below wq.heap.size wq w3:=by rw [hw3];exact Below.refl _ _
    clear hw3;have HB3:=hide (hB.out.trans (hb3.mono hB.out.size));clear hb3 HU
    by_cases hq:imgE u=0
    rotate_left
    {
    have d: (imgE u !=0)=true:=by simpa using hq
    have HE:=hide (HQ.out.trans (by rw [zch _ k _ hZ.out HM.out hq,if_pos hq]));clear hq;go_wp2_with fail;go_ret;exact⟨zao HE.out.symm,hw.trans (HB3.out.mono hw.size)⟩
    }
    have d: (imgE u !=0)=false:=by simpa using hq
    have HQ0:=hide hq;clear hq;go_wp2_with fail;exact⟨⟨k+1,hkn,by simp,HB3,zdn hZ.out HM.out HQ0.out⟩,by simp [intOf];omega⟩
    }
    {
    have hkk:k=m.ni:=by omega
    have HE:Hid (cpE units i x=relE x.v x.u x.ts):=HQ.out.trans (by rw [zc4 _ (by rw [List.length_map,HN.out,←hkk];exact hZ.out),if_neg (by simp)]);have hwq:=hw.trans (hB.out.mono hw.size);have HR:=hide (zff x.v x.u m.at_ m.nt m.ct x.ts wq (HH.out.ts.below hwq).at_ HH.out.ts.len HH.out.ts.max);unfold relv at HR;have bq:=hide (zab b0.out hB.out);have x1:=zaa bq.out 1 _ rfl;have x2:=zaa bq.out 2 _ rfl;have x3:=zaa bq.out 3 _ rfl;subst hkk;clear hk hkn;go_wp2_with fail;refine(zae HR).mono ?_;rintro e w3 ⟨rfl,hb3⟩;go_wp2_with fail;go_ret;exact⟨zao HE.out.symm,(bT hwq hb3)⟩
    }
theorem zh3 (a:Option Addr) (n c:Nat) (K:Nat→Prop) (l:List Cp) (units:Nat) (w:World) (h:RIn CR w K a n c l):
    Calls Tryz.prog 67 #[.slice a n c,.int .i64 units] w fun e w' =>e=.returned (.int .i64 (cpsE units l))∧Below w.heap.size w w' :=by
  have hn:=h.len;have HQ:Hid (cpsE units l=za0 (l.mapIdx (cpE units))):=rfl;obtain ⟨vs,h1,h2,-⟩:=h.row;have hmx:=h.max;clear h;have H1:=hide h1;have H2:=hide h2;have HN:=hide hn;clear h1 h2 hn;have hnI: (n:Int)≤9223372036854775807:=by unfold maxLen at hmx;omega
  go_enter Tryz.func67,Tryz.ntmps67;go_wp2_with fail
  go_loopw [10] (fun i wq=>∃k:Nat,k≤n∧i=.int .i64 k∧Hid (Below w.heap.size w wq)∧Hid (∀j,j<k→(l.mapIdx (cpE units)).getD j 0=0)) (fun i _=>n - (intOf i).toNat)
  case atStart=>exact⟨0,by omega,rfl,Below.refl _ _,fun j hj=>absurd hj (by omega)⟩
  case round=>
    obtain ⟨wq,rfl⟩: ∃wq:World,wq=wr:=⟨_,rfl⟩;obtain ⟨k,hk,rfl,hB,hZ⟩:=hrel
    by_cases hkn:k<n
    {
    have hkI: (k:Int)< (n:Int):=by omega
    have hul:k<l.length:=by rw [HN.out];exact hkn
    obtain ⟨b,off,m,rfl,q0,y0,y1,y2,y3,y4⟩:=zfa H1.out H2.out (List.getElem?_eq_getElem hul);have HU:=hide (fun W (hW:Below w.heap.size w W)=>zii l[k] m K k units W (zja q0 hW));have HM:Hid ((l.mapIdx (cpE units))[k]?=some (cpE units k l[k])):=by show _=_;simp [hul]
    unfold cpv at HU;generalize l[k]=u at *;replace y0:=(hB.out.cell (zah y0)).trans y0;replace y1:=(hB.out.cell (zah y1)).trans y1;replace y2:=(hB.out.cell (zah y2)).trans y2;replace y3:=(hB.out.cell (zah y3)).trans y3;replace y4:=(hB.out.cell (zah y4)).trans y4;have hb1:Below w.heap.size w (wq.alloc (.cells (aC u m) 94)):=hB.out.alloc hB.out.size _;clear q0 hul;go_wp2_with fail;refine(zae HU _ hb1).mono ?_;rintro e w3 ⟨rfl,hb3⟩;have HB3:=hide ((bT hb1 hb3));clear hb3 HU
    by_cases hq:cpE units k u=0
    rotate_left
    {
    have d: (cpE units k u !=0)=true:=by simpa using hq
    have HE:=hide (HQ.out.trans (zch _ k _ hZ.out HM.out hq));clear hq;go_wp2_with fail;go_ret;exact⟨zao HE.out.symm,HB3.out⟩
    }
    have d: (cpE units k u !=0)=false:=by simpa using hq
    have HQ0:=hide hq;clear hq;go_wp2_with fail;exact⟨⟨k+1,hkn,by simp,HB3,zdn hZ.out HM.out HQ0.out⟩,by simp [intOf];omega⟩
    }
    {
    have hkk:k=n:=by omega
    subst hkk;clear hk hkn;go_wp2_with fail;go_ret;exact⟨zao (HQ.out.trans (zc4 _ (by rw [List.length_mapIdx,HN.out];exact hZ.out))).symm,hB.out⟩
    }
end
end Go.Proofs.YthmekfcgdfckaaaGreatDoor
