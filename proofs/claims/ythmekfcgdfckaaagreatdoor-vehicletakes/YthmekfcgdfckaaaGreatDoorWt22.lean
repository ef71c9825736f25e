/- The contracts of unit.Read, Runs, Boot; of the reference's SameUnit. Plain facts on units: what is done to the slot that a unit doesn't run, and to its log, leaves what it runs; what its records say behind it. No program in this text. Plain facts on gateways: what their records may say; what noting one leaves; what is heard twice. No program in this text. -/
import Derived.Test.YthmekfcgdfckaaaGreatDoorWt13
import Derived.Test.YthmekfcgdfckaaaGreatDoorWt21
import Derived.Test.YthmekfcgdfckaaaGreatDoorWt6
import Derived.BigQuiet
import Derived.Test.YthmekfcgdfckaaaGreatDoorWt9
import Derived.Test.YthmekfcgdfckaaaGreatDoorWt8
set_option maxRecDepth 1000000
set_option maxHeartbeats 0
namespace Go.Proofs.YthmekfcgdfckaaaGreatDoor
variable {u:Un} {s:Gs} {g:Gt} {m:Ms}
section
open Go.RowKit
attribute [local go_sem ↓] Go.wp_at_zero Go.wp_at_succ
def zer (u:Un):Us×Int:=if unE u≠0 then(us0,unE u) else(stOf u.ws,0)
theorem uReadS_e (h:unE u≠0):zer u= (us0,unE u):=by unfold zer;rw [if_pos h]
theorem uReadS_0 (h:unE u=0):zer u= (stOf u.ws,0):=by unfold zer;rw [if_neg (by simpa using h)]
theorem zm7 (u:Un) (a:Option Addr) (n c:Nat) (w:World) (h:BW w a n c u.ws):
    Calls Tryz.prog 28 #[unv u a n c] w fun e w' =>e=.returned (.tuple #[usv (zer u).1,.int .i64 (zer u).2])∧Below w.heap.size w w' :=by
  have hw0:Below w.heap.size w ((w.alloc (.cells (aU a n c u) 82)).alloc (.cells #[.int .i64 0,.int .i64 0,.int .i64 0] 84)):=bA2;have b0:Hid (((w.alloc (.cells (aU a n c u) 82)).alloc (.cells #[.int .i64 0,.int .i64 0,.int .i64 0] 84)).heap[w.heap.size]?=some (.cells (aU a n c u) 82 (0,0))):=zai (heap_alloc_last _ _) _;have b1:Hid (((w.alloc (.cells (aU a n c u) 82)).alloc (.cells #[.int .i64 0,.int .i64 0,.int .i64 0] 84)).heap[w.heap.size+1]?=some (.cells #[.int .i64 0,.int .i64 0,.int .i64 0] 84 (0,0))):=zau _ _ _;have HC:=hide (fun W (hW:Below w.heap.size w W)=>zcz u a n c W (h.below hW));have HS:=hide (fun (e1:lchk u.ws u.fu=0) W (hW:Below w.heap.size w W)=>zgc a n c u.ws u.fu W (h.below hW) e1);have E1:=hide (fun h=>uReadS_e (u:=u) h);have E0:=hide (fun h=>uReadS_0 (u:=u) h);have hx:w.heap.size≤w.heap.size+1:=by omega
  unfold unv at *;clear h;go_enter Tryz.func28,Tryz.ntmps28;go_wp2_with fail;generalize (w.alloc (.cells (aU a n c u) 82)).alloc (.cells #[.int .i64 0,.int .i64 0,.int .i64 0] 84)=W at *;refine(zae HC _ hw0).mono ?_;rintro e w1 ⟨rfl,hb⟩;replace b0:=hide (zab b0.out hb);replace b1:=hide (zab b1.out hb);replace hw0:=bT hw0 hb;clear hb HC
  by_cases z1:unE u=0
  rotate_left
  {
  have HE:=hide (E1.out z1);have d1: (unE u !=0)=true:=by simpa using z1
  have y0:=zaa b1.out 0 _ rfl;have y1:=zaa b1.out 1 _ rfl;have y2:=zaa b1.out 2 _ rfl;have f0:=zad b1.out 0;have f1:=zad b1.out 1;have f2:=zad b1.out 2;clear z1;generalize unE u=q at *;go_wp2_with fail;refine bodyPost_ret (v:=.tuple #[usv us0,.int .i64 q]) (by simp [results,Tryz.results28,go_sem,usv,us0,y0,y1,y2]) rfl ?_;rw [HE.out];exact⟨rfl,((hw0.setCell hx _).setCell hx _).setCell hx _⟩
  }
  have HE:=hide (E0.out z1);have HSt:=hide (HS.out (zjw z1).1 _ hw0);rw [z1];clear z1 E1 E0 HS;have x0:=zaa b0.out 0 _ rfl;have x1:=zaa b0.out 1 _ rfl;go_wp2_with fail;refine(zae HSt).mono ?_;rintro e w2 ⟨rfl,hb⟩;replace b1:=hide (zab b1.out hb);replace hw0:=bT hw0 hb;clear hb HSt x0 x1;have y0:=zaa b1.out 0 _ rfl;have y1:=zaa b1.out 1 _ rfl;have y2:=zaa b1.out 2 _ rfl;have f0:=zad b1.out 0;have f1:=zad b1.out 1;have f2:=zad b1.out 2;generalize stOf u.ws=s at *;unfold usv;go_wp2_with fail;refine bodyPost_ret (v:=.tuple #[usv s,.int .i64 0]) (by simp [results,Tryz.results28,go_sem,usv,y0,y1,y2]) rfl ?_;rw [HE.out];exact⟨rfl,((hw0.setCell hx _).setCell hx _).setCell hx _⟩
theorem zqw: (Tryz.prog.info? 28).map (fun i=>(i.zero,i.size,i.bytes))=some (some (.agg #[.slice none 0 0,.int .i64 0]),2,32):=by kernel_rfl
theorem zp0 (a:Option Addr) (n c:Nat) (fu x y:Int) (up:Bool) (w:World):
    (Instr.field 82 (.agg #[.slice a n c,.int .i64 fu,.bool up,.int .i64 x,.int .i64 y]) 0).run Tryz.prog w=.ok (.agg #[.slice a n c,.int .i64 fu]) w:=by
  obtain ⟨i0,hi0,hz0,hz1,hz2⟩:=info_parts zqw
  simp [Instr.field,run_underlying Tryz.underlying82,part,go_sem,isAgg,sizeOf,typeInfo,asAgg,hi0,hz1]
def bootS (u:Un):Un×Int:=if unE u≠0 then(un0,unE u) else(⟨u.ws,-1,true,0,0⟩,0)
theorem bootS_e (h:unE u≠0):bootS u= (un0,unE u):=by unfold bootS;rw [if_pos h]
theorem bootS_0 (h:unE u=0):bootS u= (⟨u.ws,-1,true,0,0⟩,0):=by unfold bootS;rw [if_neg (by simpa using h)]
def UnAns (w:World) (r:Un×Int) (e:Ending) (w' :World):Prop:=
  (∃a n c,e=.returned (.tuple #[unv r.1 a n c,.int .i64 r.2])∧BW w' a n c r.1.ws)∧Below w.heap.size w w'
theorem zn8 (u:Un) (a:Option Addr) (n c:Nat) (w:World) (h:BW w a n c u.ws):
    Calls Tryz.prog 32 #[unv u a n c] w (UnAns w (bootS u)):=by
  have hw0:Below w.heap.size w ((w.alloc (.cells (aU a n c u) 82)).alloc (.cells #[.slice none 0 0,.int .i64 0,.bool false,.int .i64 0,.int .i64 0] 82)):=bA2;have b0:Hid (((w.alloc (.cells (aU a n c u) 82)).alloc (.cells #[.slice none 0 0,.int .i64 0,.bool false,.int .i64 0,.int .i64 0] 82)).heap[w.heap.size]?=some (.cells (aU a n c u) 82 (0,0))):=zai (heap_alloc_last _ _) _;have b1:Hid (((w.alloc (.cells (aU a n c u) 82)).alloc (.cells #[.slice none 0 0,.int .i64 0,.bool false,.int .i64 0,.int .i64 0] 82)).heap[w.heap.size+1]?=some (.cells #[.slice none 0 0,.int .i64 0,.bool false,.int .i64 0,.int .i64 0] 82 (0,0))):=zau _ _ _;have HC:=hide (fun W (hW:Below w.heap.size w W)=>zcz u a n c W (h.below hW));have HT:=hide (fun (hb:n * 8≤140737488355328) W (hW:Below w.heap.size w W)=>zhf u a n c W (h.below hW) hb);have E1:=hide (fun h=>bootS_e (u:=u) h);have E0:=hide (fun h=>bootS_0 (u:=u) h);have hx:w.heap.size≤w.heap.size+1:=by omega
  have HN:=hide h.len;unfold unv at *;clear h;go_enter Tryz.func32,Tryz.ntmps32;go_wp2_with fail;generalize (w.alloc (.cells (aU a n c u) 82)).alloc (.cells #[.slice none 0 0,.int .i64 0,.bool false,.int .i64 0,.int .i64 0] 82)=W at *;refine(zae HC _ hw0).mono ?_;rintro e w1 ⟨rfl,hb⟩;replace b0:=hide (zab b0.out hb);replace b1:=hide (zab b1.out hb);replace hw0:=bT hw0 hb;clear hb HC
  by_cases z1:unE u=0
  rotate_left
  {
  have HE:=hide (E1.out z1);have d1: (unE u !=0)=true:=by simpa using z1
  obtain ⟨y0,y1,y2,y3,y4⟩:=cl5 b1.out;obtain ⟨f0,f1,f2,f3,f4⟩:=fr5 b1.out;clear z1;generalize unE u=q at *;go_wp2_with fail;refine bodyPost_ret (v:=.tuple #[unv un0 none 0 0,.int .i64 q]) (by simp [results,Tryz.results32,go_sem,unv,un0,y0,y1,y2,y3,y4]) rfl ?_;rw [HE.out];exact⟨⟨none,0,0,rfl,⟨.inl rfl,rfl,Nat.le_refl _,by decide⟩⟩,((((hw0.setCell hx _).setCell hx _).setCell hx _).setCell hx _).setCell hx _⟩
  }
  have HE:=hide (E0.out z1);have LN:=hide (zjw z1).2.1;have HTw:=hide (HT.out (by rw [←HN.out,LN.out];decide) _ hw0);rw [z1];clear z1 E1 E0 HT;obtain ⟨x0,x1,x2,x3,x4⟩:=cl5 b0.out;go_wp2_with fail;refine(zae HTw).mono ?_;rintro e w2 ⟨⟨a2,c2,rfl,hi2,hf2,hc2⟩,hb⟩;rw [LN.out] at hc2;unfold unv;rw [LN.out];replace b1:=hide (zab b1.out hb);replace hw0:=bT hw0 hb;have HI2:=hide hi2;clear hb HTw x0 x1 x2 x3 x4 hi2 hf2;have hfld:=zp0 a2 192 c2 u.fu u.n u.hv u.up;go_upto_region 5 with fail
  clear hfld;have S0:=hide (heap_alloc_last w2 (.cells #[.slice a2 192 c2,.int .i64 u.fu,.bool true,.int .i64 0,.int .i64 0] 82));have hb3:Below w2.heap.size w2 (w2.alloc (.cells #[.slice a2 192 c2,.int .i64 u.fu,.bool true,.int .i64 0,.int .i64 0] 82)):=bA1;have hX:w.heap.size+1<w2.heap.size:=zak b1.out;have ho2:Hid (Off w2.heap.size a2):=by
    rcases zcu HI2.out w2.heap.size (Nat.le_refl _) with e|h
    { have:=LN.out;rw [e] at this;simp at this }
    { exact h }
  replace HI2:=hide (HI2.out.below hb3);replace b1:=hide (zab b1.out hb3);have hB:=hw0.size;replace hw0:=bT hw0 hb3;clear hb3;generalize w2.heap.size=B at *;generalize w2.alloc (.cells #[.slice a2 192 c2,.int .i64 u.fu,.bool true,.int .i64 0,.int .i64 0] 82)=W3 at *;have s0:=zaa S0.out 0 _ rfl;have s1:=zaa S0.out 1 _ rfl;have r1:=zad S0.out 1;go_upto_region 6 with fail
  clear s0 s1;have S1:Hid ((W3.setCell ⟨B,1,none⟩ (.int .i64 (-1))).heap[B]?=some (.cells #[.slice a2 192 c2,.int .i64 (-1),.bool true,.int .i64 0,.int .i64 0] 82 (0,0))):=by
    show _=_
    have h0:=S0.out;simp only [World.setCell,Array.getElem?_modify]
    simp [h0]
  have hg:=zaw W3 B 1 (.int .i64 (-1));replace b1:=hide (zar b1.out hg (by omega));replace HI2:=hide (zax HI2.out hg ho2.out);replace hw0:=hw0.setCell (p:=⟨B,1,none⟩) hB (.int .i64 (-1));clear hg S0 r1 ho2;generalize W3.setCell ⟨B,1,none⟩ (.int .i64 (-1))=W4 at *;obtain ⟨s0,s1,s2,s3,s4⟩:=cl5 S1.out;obtain ⟨y0,y1,y2,y3,y4⟩:=cl5 b1.out;obtain ⟨f0,f1,f2,f3,f4⟩:=fr5 b1.out;go_wp2_with fail;refine bodyPost_ret (v:=.tuple #[unv ⟨u.ws,-1,true,0,0⟩ a2 192 c2,.int .i64 0]) (by simp [results,Tryz.results32,go_sem,unv,y0,y1,y2,y3,y4]) rfl ?_;rw [HE.out];have hbw:BW W4 a2 192 c2 u.ws:=⟨HI2.out,LN.out,hc2,by decide⟩;have ho:=zfz HI2.out (.inr (by rw [LN.out];decide)) b1.out rfl;exact⟨⟨a2,192,c2,rfl,((((hbw.ne ho _ _).ne ho _ _).ne ho _ _).ne ho _ _).ne ho _ _⟩,((((hw0.setCell hx _).setCell hx _).setCell hx _).setCell hx _).setCell hx _⟩
theorem zo6 (x y z:Int) (w:World): (Instr.field 84 (.agg #[.int .i64 x,.int .i64 y,.int .i64 z]) 0).run Tryz.prog w=.ok (.int .i64 x) w:=by
  simp [Instr.field,run_underlying Tryz.underlying84,part,go_sem,isAgg,asAgg]
def runsS (u:Un):List Int×Int×Int:=if unE u≠0 then([],0,unE u) else imgS u.ws u.fu (stOf u.ws).slot
theorem runsS_e (h:unE u≠0):runsS u= ([],0,unE u):=by unfold runsS;rw [if_pos h]
theorem ztq (h:unE u=0):runsS u=imgS u.ws u.fu (stOf u.ws).slot:=by unfold runsS;rw [if_neg (by simpa using h)]
theorem zn0 (u:Un) (a:Option Addr) (n c:Nat) (w:World) (h:BW w a n c u.ws):
    Calls Tryz.prog 29 #[unv u a n c] w (Shows w (runsS u)):=by
  have hw0:Below w.heap.size w (w.alloc (.cells (aU a n c u) 82)):=bA1;have b0:=hide (heap_alloc_last w (.cells (aU a n c u) 82));have HC:=hide (fun W (hW:Below w.heap.size w W)=>zcz u a n c W (h.below hW));have HS:=hide (fun (e1:lchk u.ws u.fu=0) W (hW:Below w.heap.size w W)=>zgc a n c u.ws u.fu W (h.below hW) e1);have HI:=hide (fun W (hW:Below w.heap.size w W)=>zmf a n c u.ws u.fu (stOf u.ws).slot W (h.below hW).at_ h.len h.max h.cap);have E1:=hide (fun h=>runsS_e (u:=u) h);have E0:=hide (fun h=>ztq (u:=u) h);unfold unv at *;clear h;go_enter Tryz.func29,Tryz.ntmps29;go_wp2_with fail;generalize w.alloc (.cells (aU a n c u) 82)=W at *;refine(zae HC _ hw0).mono ?_;rintro e w1 ⟨rfl,hb⟩;replace b0:=hide (zab b0.out hb);replace hw0:=bT hw0 hb;clear hb HC
  by_cases z1:unE u=0
  rotate_left
  {
  have HE:=hide (E1.out z1);have d1: (unE u !=0)=true:=by simpa using z1
  clear z1;generalize unE u=q at *;go_wp2_with fail;refine bodyPost_ret (v:=.tuple #[.slice none 0 0,.int .i64 0,.int .i64 q]) (by simp [results,Tryz.results29,go_sem]) rfl ?_;exact zhg HE.out hw0
  }
  have HE:=hide (E0.out z1);replace HS:=hide (HS.out (zjw z1).1);rw [z1];clear z1 E1 E0;generalize imgS u.ws u.fu (stOf u.ws).slot=r at *;generalize stOf u.ws=s at *;go_upto_region 4 with fail
  refine wp_region_held_drew (S:=fun W' =>W'.cell? ⟨w.heap.size,0,none⟩=some (.slice a n c)∧W'.cell? ⟨w.heap.size,1,none⟩=some (.int .i64 u.fu)) (by kernel_rfl) ⟨zaa b0.out 0 _ rfl,zaa b0.out 1 _ rfl⟩ ?_;intro hHeld;refine Htk (i:=0) ?_
  try simp only [sq]
  refine Htk (i:=1) ?_
  try simp only [sq]
  refine Htk (i:=2) ?_
  try simp only [sq]
  refine Htk (i:=3) ?_
  try simp only [sq]
  refine wpAnyH_ready (rs:= [4]) (by kernel_rfl) (by simp) ?_;refine AllReadyH.cons (by rfl) (fun K hK=> ?_) AllReadyH.nil;go_simp;have hk0:Below w.heap.size w w1.drew:=hw0.drew;replace b0:Hid (w1.drew.heap[w.heap.size]?=some (.cells (aU a n c u) 82 (0,0))):=b0.out;refine(zae HS _ hk0).mono ?_;rintro e w2 ⟨rfl,hb⟩;unfold usv;replace b0:=hide (zab b0.out hb);replace hk0:=bT hk0 hb;clear hb HS hw0;have hfd:=zo6 s.slot s.by' s.rdy;go_wp2_with fail;refine hK.out _ _ ((show w2.cell? ⟨w.heap.size,0,none⟩=some (.slice a n c)∧w2.cell? ⟨w.heap.size,1,none⟩=some (.int .i64 u.fu) from⟨zaa b0.out 0 _ rfl,zaa b0.out 1 _ rfl⟩)) (fun hHeld=> ?_);clear hK K
  try simp only [sq]
  refine Htk (i:=5) ?_
  try simp only [sq]
  refine wpAnyH_ready (rs:= [6]) (by kernel_rfl) (by simp) ?_;refine AllReadyH.cons (by rfl) (fun K hK=> ?_) AllReadyH.nil;go_simp;refine(zae HI _ hk0).mono ?_;rintro e w3 ⟨⟨a3,n3,c3,rfl,hi3,hn3,hc3,hf3⟩,hb⟩;replace b0:=hide (zab b0.out hb);have hk1:=bT hk0 hb;have I3:=hide hi3;have N3:=hide hn3;have F3:=hide hf3;clear hb HI hi3 hn3 hf3;go_wp2_with fail;refine hK.out _ _ ((show w3.cell? ⟨w.heap.size,0,none⟩=some (.slice a n c)∧w3.cell? ⟨w.heap.size,1,none⟩=some (.int .i64 u.fu) from⟨zaa b0.out 0 _ rfl,zaa b0.out 1 _ rfl⟩)) (fun hHeld=> ?_);clear hK K
  try simp only [sq]
  refine Htk (i:=7) ?_
  try simp only [sq]
  refine Htk (i:=8) ?_
  try simp only [sq]
  refine Htk (i:=9) ?_
  try simp only [sq]
  refine Htk (i:=10) ?_
  try simp only [sq]
  refine Htk (i:=11) ?_
  try simp only [sq]
  refine Htk (i:=12) ?_
  try simp only [sq]
  refine wpAnyH_done (by kernel_rfl) ?_ _;clear hHeld;go_wp2_with fail;refine bodyPost_ret (v:=.tuple #[.slice a3 n3 c3,.int .i64 r.2.1,.int .i64 r.2.2]) (by simp [results,Tryz.results29,go_sem]) rfl ?_;rw [HE.out];exact⟨⟨a3,n3,c3,rfl,I3.out,N3.out,hc3,fun ad e=>by have:=F3.out ad e;have:=hk0.size;omega⟩,hk1⟩
end
section
theorem zr3 (ws:List Int) (f:Int) (r:List Int) (keep:List (List Int)) (h:lchk ws f=0):zcp ws f r keep≠7:=by
  unfold zcp;rw [if_neg (by simpa using h)]
  split
  {
  unfold recE;split
  { decide }
  {
  split
  { decide }
  { decide }
  }
  }
  {
  split
  {
  intro h7;have key: ∀(rs:List (List Int)) (xs:List Int),(laidS rs xs).2≠7:=by
    intro rs
    induction rs with
    |nil=>intro xs;simp [laidS]
    |cons r rs ih=>
      intro xs
      by_cases e:addE xs r=0
      { rw [zex e];exact ih _ }
      {
      rw [zet e]
      show addE xs r≠7
      unfold addE recE
      repeat(first|decide|split)
      }
  exact key _ _ h7
  }
  {
  split
  { decide }
  {
  decide
  }
  }
  }
end
section
open Go.RowKit
structure GsOk (s:Gs):Prop where
  n:0≤s.n∧s.n≤8
  none:s.n=0→s=gs0
  one:s.co=true→s.ab=false
  en:s.en=true→decG s=true
theorem gsOk0:GsOk gs0:=⟨by decide,fun _=>rfl,fun h=>(by cases h),fun h=>(by cases h)⟩
theorem gsOk_trn (h:GsOk s) (hn:s.n≠0) (k:Int):GsOk (trnG s k):=by
  obtain ⟨h1,h2,h3,h4⟩:=h;cases s with
  |mk n v co ab en=>
    unfold trnG decG at *;simp only at *
    split
    { refine⟨h1,fun e=>absurd e hn, ?_, ?_⟩<;>cases co<;>cases ab<;>cases en<;>simp_all [decG] }
    {
    split
    { refine⟨h1,fun e=>absurd e hn, ?_, ?_⟩<;>cases co<;>cases ab<;>cases en<;>simp_all [decG] }
    {
    split
    { refine⟨h1,fun e=>absurd e hn, ?_, ?_⟩<;>cases co<;>cases ab<;>cases en<;>simp_all [decG] }
    { exact⟨h1,h2,h3,h4⟩ }
    }
    }
theorem isBeg_n {r:List Int} (h:isBeg r=true):1≤r.getD 1 0∧r.getD 1 0≤8:=by
  unfold isBeg inB at h
  simp at h
  simpa using h.2.2
theorem gsOk_next (h:GsOk s) (r:List Int):GsOk (gNext s r):=by
  unfold gNext
  split
  {
  rename_i hb
  have:=isBeg_n hb;exact⟨⟨by show(0:Int)≤r.getD 1 0;omega,this.2⟩,fun e=>by have e:r.getD 1 0=0:=e;omega,fun h=>(by cases h),fun h=>(by cases h)⟩
  }
  {
  split
  {
  rename_i _ ho
  refine gsOk_trn h ?_ _;unfold isOf at ho
  simp at ho
  exact ho.2.1
  }
  { exact h }
  }
theorem gsOk_R (rs:List (List Int)):GsOk (gR rs):=by
  unfold gR;have key: ∀(rs:List (List Int)) (s:Gs),GsOk s→GsOk (rs.foldl gNext s):=by
    intro rs
    induction rs with
    |nil=>exact fun s h=>h
    |cons r rs ih=>exact fun s h=>ih _ (gsOk_next h r)
  exact key rs gs0 gsOk0
theorem zrr (ws:List Int):GsOk (gOf ws):=gsOk_R _
theorem gR_last (X:List (List Int)) (r:List Int):gR (X++ [r])=gNext (gR X) r:=by unfold gR;rw [List.foldl_append];rfl
theorem gN_beg (s:Gs) {n v:Int} (h:1≤n∧n≤8):gNext s [1,n,v]= ⟨n,v,false,false,false⟩:=by
  unfold gNext;rw [if_pos (by unfold isBeg;simp [inB_t h.1 h.2])];rfl
theorem gN_of {k:Int} (h:s.n≠0):gNext s [k,s.n]=trnG s k:=by
  unfold gNext;rw [if_neg (by simp [isBeg]),if_pos (by simp [isOf,h])];rfl
theorem gR_keep (h:GsOk s):gR (kepG s)=s:=by
  by_cases z:s.n=0
  { unfold kepG;rw [if_pos z,h.none z];rfl }
  {
  obtain ⟨h1,-,h3,h4⟩:=h;unfold kepG;rw [if_neg z];cases s with
  |mk n v co ab en=>
    have hb:gNext gs0 [1,n,v]= ⟨n,v,false,false,false⟩:=gN_beg _ ⟨by have z:n≠0:=z;have h1:0≤n∧n≤8:=h1;omega,h1.2⟩;have t2: ∀c a e,gNext ⟨n,v,c,a,e⟩ [2,n]= ⟨n,v,!a,a,e⟩:=fun c a e=>(gN_of (s:=⟨n,v,c,a,e⟩) z).trans rfl
    have t3: ∀c a e,gNext ⟨n,v,c,a,e⟩ [3,n]= ⟨n,v,c,!c,e⟩:=fun c a e=>(gN_of (s:=⟨n,v,c,a,e⟩) z).trans rfl
    have t4: ∀c a e,gNext ⟨n,v,c,a,e⟩ [4,n]= ⟨n,v,c,a,c||a⟩:=fun c a e=>(gN_of (s:=⟨n,v,c,a,e⟩) z).trans rfl
    unfold decG at h4;unfold gR;rw [List.foldl_cons,hb];cases co<;>cases ab<;>cases en<;>simp_all
  }
theorem gtE_0 (h1:lchk g.ws g.fu=0) (h2:1≤g.vo.length∧g.vo.length≤4) (h3:g.di.length=g.vo.length) (h4:trE g.t=0):gtE g=0:=by
  unfold gtE;rw [if_neg (by simpa using h1),if_pos,h4];unfold gtB inB
  simp
  omega
theorem zrp (h:gtE g=0):lchk g.ws g.fu=0∧(1≤g.vo.length∧g.vo.length≤4)∧g.di.length=g.vo.length∧trE g.t=0:=by
  unfold gtE at h
  split at h
  { rename_i h1;exact absurd h h1 }
  {
  rename_i h1
  split at h
  {
  rename_i h2
  unfold gtB inB at h2
  simp at h2
  exact⟨by simpa using h1,⟨by omega,by omega⟩,h2.2,h⟩
  }
  { cases h }
  }
structure NtG (r:List Int) (g x:Gt) (d:Bool):Prop where
  ok:gtE x=0
  t:x.t=g.t
  len:x.ws.length=g.ws.length
  nvo:x.vo.length=g.vo.length
  no:d=false→gOf x.ws=gOf g.ws
  yes:d=true→gOf x.ws=gNext (gOf g.ws) r∧x.up=g.up∧x.vo=g.vo∧x.di=g.di
theorem zru (l:List Bool): (zbj l).length=l.length:=by unfold zbj;simp
theorem zrw (r:List Int) (hg:gtE g=0):NtG r g (noteG g (gOf g.ws) r).1 (noteG g (gOf g.ws) r).2:=by
  obtain ⟨hk,hv,hd,ht⟩:=zrp hg;unfold noteG
  by_cases e:zcp g.ws g.fu r (kepG (gOf g.ws))=0
  {
  have b:=zto e;generalize appS g.ws g.fu r (kepG (gOf g.ws))=R at *;obtain ⟨g1,g2,g3,g4⟩:=b
  rcases g4 with ⟨z0,g4⟩| ⟨z7,g4⟩
  {
  unfold dnG;rw [if_neg (by rw [z0];decide),if_pos z0];refine⟨gtE_0 (g3 _ g2.1 g2.2) hv hd ht,rfl,g1,rfl,fun h=>(by cases h),fun _=>⟨?_,rfl,rfl,rfl⟩⟩
  show gR (logR R.1)=_
  rcases g4 with g4|g4
  { rw [g4,gR_last];rfl }
  { rw [g4,gR_last,gR_keep (zrr _)] }
  }
  {
  unfold dnG;rw [if_pos z7];refine⟨gtE_0 (g3 _ g2.1 g2.2) (by show 1≤(zbj g.vo).length∧(zbj g.vo).length≤4;rw [zru];exact hv) (by show(zbj g.di).length= (zbj g.vo).length;rw [zru,zru];exact hd) ht,rfl,g1,zru _,fun _=> ?_,fun h=>by cases h⟩
  show gR (logR R.1)=_
  rw [g4];rfl
  }
  }
  {
  rw [zsv e];unfold dnG;rw [if_neg (by exact zr3 _ _ _ _ hk),if_neg (by exact e)];exact⟨hg,rfl,rfl,rfl,fun _=>rfl,fun h=>by cases h⟩
  }
theorem zso (l:List Bool) (u:Int): (setB l u).length=l.length:=by unfold setB;simp
def withV (g:Gt) (u:Int):Gt:=⟨g.ws,g.fu,g.up,g.t,setB g.vo u,g.di⟩
def withD (g:Gt) (u:Int):Gt:=⟨g.ws,g.fu,g.up,g.t,g.vo,setB g.di u⟩
theorem zsl (h:gtE g=0) (u:Int):gtE (withV g u)=0:=by
  obtain ⟨h1,h2,h3,h4⟩:=zrp h;exact gtE_0 h1 (by show 1≤(setB g.vo u).length∧(setB g.vo u).length≤4;rw [zso];exact h2) (by show g.di.length= (setB g.vo u).length;rw [zso];exact h3) h4
theorem zsn (h:gtE g=0) (u:Int):gtE (withD g u)=0:=by
  obtain ⟨h1,h2,h3,h4⟩:=zrp h;exact gtE_0 h1 h2 (by show(setB g.di u).length=g.vo.length;rw [zso];exact h3) h4
structure Onc (g x:Gt) (s t:Gs):Prop where
  ok:gtE x=0
  tr:x.t=g.t
  n:t.n=s.n
  v:t.v=s.v
  co:s.co=true→t.co=true
  ab:s.ab=true→t.ab=true
  en:s.en=true→t.en=true
  nvo:x.vo.length=g.vo.length
theorem Onc.same {x:Gt} {t:Gs} (hg:gtE x=0) (h1:x.t=g.t) (h2:x.vo.length=g.vo.length) (h:t=s):Onc g x s t:=⟨hg,h1,by rw [h],by rw [h],by rw [h];exact id,by rw [h];exact id,by rw [h];exact id,h2⟩
theorem zsj (h: (gvUp g).2=0):gtE g=0∧(gOf g.ws).n≠0∧decG (gOf g.ws)=false∧(gvUp g).1= (noteG g (gOf g.ws) [3,(gOf g.ws).n]).1:=by
  unfold gvUp at *
  by_cases z:upE g=0
  {
  rw [if_neg (by simpa using z)] at h⊢;have hg:gtE g=0:=by
    unfold upE at z
    split at z
    { rename_i h1;exact absurd z h1 }
    { rename_i h1;simpa using h1 }
  split at h
  { cases h }
  {
  rename_i hd
  rw [if_neg hd]
  simp at hd
  exact⟨hg,hd.1,hd.2,rfl⟩
  }
  }
  { rw [if_pos z] at h;exact absurd h z }
theorem zu4 (h: (gvUp g).2=0):Onc g (gvUp g).1 (gOf g.ws) (gOf (gvUp g).1.ws)∧(gOf (gvUp g).1.ws).co= (gOf g.ws).co∧(gOf (gvUp g).1.ws).en= (gOf g.ws).en∧(gOf g.ws).co=false:=by
  obtain ⟨hg,hn,hd,e⟩:=zsj h;rw [e];have st:=zrw [3,(gOf g.ws).n] hg;have hok:=zrr g.ws;generalize noteG g (gOf g.ws) [3,(gOf g.ws).n]=N at *;cases z:N.2
  {
  have y:=st.no z;exact⟨.same st.ok st.t st.nvo y,by rw [y],by rw [y],by unfold decG at hd;revert hd;cases (gOf g.ws).co<;>simp⟩
  }
  {
  obtain ⟨y,_⟩:=st.yes z;rw [gN_of hn] at y;generalize gOf g.ws=s at *;have e3:trnG s 3= ⟨s.n,s.v,s.co,!s.co,s.en⟩:=rfl;rw [e3] at y;rw [y];unfold decG at hd;have hco:s.co=false:=by revert hd;cases s.co<;>simp
  exact⟨⟨st.ok,st.t,rfl,rfl,id,fun _=>by rw [hco];rfl,id,st.nvo⟩,rfl,rfl,hco⟩
  }
def VoteOk (g:Gt) (m:Ms):Prop:=m.k=3∧m.y=true∧m.n= (gOf g.ws).n∧(gOf g.ws).ab=false∧(gOf g.ws).co=false∧allB (setB g.vo m.u)=true
def DoneOk (g:Gt) (m:Ms):Prop:=m.k=6∧decG (gOf g.ws)=true∧(gOf g.ws).en=false
theorem ztb (h:ghE g m=0):gtE g=0∧(0≤m.u∧m.u<g.vo.length)∧(1≤m.n∧m.n≤8):=by
  unfold ghE at h
  split at h
  { rename_i h1;exact absurd h h1 }
  {
  rename_i h1
  split at h
  {
  rename_i h2
  unfold inB at h2
  simp at h2
  exact⟨by simpa using h1,by omega,by omega⟩
  }
  { cases h }
  }
structure Hrd (g:Gt) (m:Ms) (x:Gt):Prop where
  onc:Onc g x (gOf g.ws) (gOf x.ws)
  co: (gOf x.ws).co=true→(gOf g.ws).co=true∨VoteOk g m
  ab: (gOf x.ws).ab= (gOf g.ws).ab
  en: (gOf x.ws).en=true→(gOf g.ws).en=true∨DoneOk g m
theorem Hrd.same {x:Gt} (hg:gtE x=0) (ht:x.t=g.t) (hl:x.vo.length=g.vo.length) (h:gOf x.ws=gOf g.ws):Hrd g m x:=⟨.same hg ht hl h,fun e=>.inl (by rw [←h];exact e),by rw [h],fun e=>.inl (by rw [←h];exact e)⟩
theorem hrd_K (h:ghE g m=0):Hrd g m (ghK g (gOf g.ws) m).1:=by
  obtain ⟨hg,hu,hn⟩:=ztb h;have hs:=zrr g.ws;have hself:Hrd g m g:=.same hg rfl rfl rfl;unfold ghK
  split
  {
  rename_i h3
  dsimp only
  split
  {
  rename_i hp
  unfold pend at hp;simp only [Bool.and_eq_true,decide_eq_true_eq,Bool.not_eq_true'] at hp;obtain ⟨⟨p1,p2⟩,p3,p4⟩:=hp;unfold voteG;have hV:=zsl hg m.u
  split
  {
  rename_i ha
  have st:=zrw [2,(gOf g.ws).n] hV;have e0:gOf (withV g m.u).ws=gOf g.ws:=rfl;rw [e0] at st
  show Hrd g m (noteG (withV g m.u) (gOf g.ws) [2,(gOf g.ws).n]).1
  generalize noteG (withV g m.u) (gOf g.ws) [2,(gOf g.ws).n]=N at *;have hlen:N.1.vo.length=g.vo.length:=st.nvo.trans (zso _ _);cases z:N.2
  { exact .same st.ok st.t hlen ((st.no z).trans e0) }
  {
  obtain ⟨y,-⟩:=st.yes z;rw [e0,gN_of (by omega)] at y;have hab: (gOf g.ws).ab=false:=by unfold decG at p3;revert p3;cases (gOf g.ws).ab<;>simp
  have hco: (gOf g.ws).co=false:=by unfold decG at p3;revert p3;cases (gOf g.ws).co<;>simp
  have hvo:VoteOk g m:=⟨h3,p4,p1.symm,hab,hco,ha⟩;have ht:N.1.t=g.t:=st.t;clear hself hV e0 h;have e2:trnG (gOf g.ws) 2= ⟨(gOf g.ws).n,(gOf g.ws).v,!(gOf g.ws).ab,(gOf g.ws).ab,(gOf g.ws).en⟩:=rfl;rw [e2] at y;exact⟨⟨st.ok,ht,by rw [y],by rw [y],fun _=>by rw [y,hab];rfl,fun e=>by rw [y];exact e,fun e=>by rw [y];exact e,hlen⟩,fun _=>.inr hvo,by rw [y],fun e=>.inl (by rw [y] at e;exact e)⟩
  }
  }
  { exact .same hV rfl (zso _ _) rfl }
  }
  { exact hself }
  }
  {
  split
  {
  rename_i _ h6
  dsimp only
  split
  {
  rename_i hp
  unfold pend at hp;simp only [Bool.and_eq_true,decide_eq_true_eq,Bool.not_eq_true'] at hp;obtain ⟨⟨p1,p2⟩,p3⟩:=hp;unfold doneG;have hV:=zsn hg m.u
  split
  {
  rename_i ha
  have st:=zrw [4,(gOf g.ws).n] hV;have e0:gOf (withD g m.u).ws=gOf g.ws:=rfl;rw [e0] at st
  show Hrd g m (noteG (withD g m.u) (gOf g.ws) [4,(gOf g.ws).n]).1
  generalize noteG (withD g m.u) (gOf g.ws) [4,(gOf g.ws).n]=N at *;have hlen:N.1.vo.length=g.vo.length:=st.nvo;cases z:N.2
  { exact .same st.ok st.t hlen ((st.no z).trans e0) }
  {
  obtain ⟨y,-⟩:=st.yes z;rw [e0,gN_of (by omega)] at y;have hdo:DoneOk g m:=⟨h6,p3,p2⟩;have ht:N.1.t=g.t:=st.t;have e4:trnG (gOf g.ws) 4= ⟨(gOf g.ws).n,(gOf g.ws).v,(gOf g.ws).co,(gOf g.ws).ab,decG (gOf g.ws)⟩:=rfl;rw [e4] at y;exact⟨⟨st.ok,ht,by rw [y],by rw [y],fun e=>by rw [y];exact e,fun e=>by rw [y];exact e,fun _=>by rw [y];exact p3,hlen⟩,fun e=>.inl (by rw [y] at e;exact e),by rw [y],fun _=>.inr hdo⟩
  }
  }
  { exact .same hV rfl rfl rfl }
  }
  { exact hself }
  }
  {
  split
  { exact hself }
  { exact hself }
  }
  }
theorem zsc (h: (gHear g m).2.2=0):ghE g m=0∧Hrd g m (gHear g m).1:=by
  unfold gHear at *
  by_cases z:ghE g m=0
  {
  refine⟨z, ?_⟩;rw [if_neg (by simpa using z)] at h⊢
  split
  { exact hrd_K z }
  { exact .same (ztb z).1 rfl rfl rfl }
  }
  {
  rw [if_pos z] at h;exact absurd h z
  }
end
end Go.Proofs.YthmekfcgdfckaaaGreatDoor
