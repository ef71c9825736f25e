/- The contracts of unit.Read, Runs, Boot; of the reference's SameUnit. Plain facts on gateways: what their records may say; what noting one leaves; what is heard twice. No program in this text. The contract of gate.Begin. -/
import Derived.Test.YthmekfcgdfckaaaGreatDoorWn13
import Derived.Test.YthmekfcgdfckaaaGreatDoorWn22
import Derived.Test.YthmekfcgdfckaaaGreatDoorWn6
import Derived.BigQuiet
import Derived.Test.YthmekfcgdfckaaaGreatDoorWn8
import Derived.Test.YthmekfcgdfckaaaGreatDoorWn17
import Derived.Test.YthmekfcgdfckaaaGreatDoorWn19
import Derived.Test.YthmekfcgdfckaaaGreatDoorWn20
import Derived.Deep.DeepCutAuto
set_option maxRecDepth 1000000
set_option maxHeartbeats 0
namespace Go.Proofs.YthmekfcgdfckaaaGreatDoor
variable {u:Un} {ss:List ByteArray} {l:List S2} {g:Gt} {o:Of} {now:Int} {m:GA} {a:Option Addr} {w:World}
section
open Go.RowKit
attribute [local go_sem ↓] Go.wp_at_zero Go.wp_at_succ
def zer (u:Un):Us×Int:=if unE u≠0 then(us0,unE u) else(stOf u.ws,0)
theorem uReadS_e (h:unE u≠0):zer u= (us0,unE u):=by unfold zer;rw [if_pos h]
theorem uReadS_0 (h:unE u=0):zer u= (stOf u.ws,0):=by unfold zer;rw [if_neg (by simpa using h)]
theorem zm7 (u:Un) (a:Option Addr) (n c:Nat) (w:World) (h:BW w a n c u.ws):
    Calls Tryz.prog 28 #[unv u a n c] w fun e w' =>e=.returned (.tuple #[usv (zer u).1,.int .i64 (zer u).2])∧Below w.heap.size w w' :=by
  have hw0:Below w.heap.size w ((w.alloc (.cells (aU a n c u) 82)).alloc (.cells #[.int .i64 0,.int .i64 0,.int .i64 0] 84)):=bA2;have b0:Hid (((w.alloc (.cells (aU a n c u) 82)).alloc (.cells #[.int .i64 0,.int .i64 0,.int .i64 0] 84)).heap[w.heap.size]?=some (.cells (aU a n c u) 82 (0,0))):=zai (heap_alloc_last _ _) _;have b1:Hid (((w.alloc (.cells (aU a n c u) 82)).alloc (.cells #[.int .i64 0,.int .i64 0,.int .i64 0] 84)).heap[w.heap.size+1]?=some (.cells #[.int .i64 0,.int .i64 0,.int .i64 0] 84 (0,0))):=zau _ _ _;have HC:=hide (fun W (hW:Below w.heap.size w W)=>zcz u a n c W (h.below hW));have HS:=hide (fun (e1:lchk u.ws u.fu=0) W (hW:Below w.heap.size w W)=>zgc a n c u.ws u.fu W (h.below hW) e1);have E1:=hide (fun h=>uReadS_e (u:=u) h);have E0:=hide (fun h=>uReadS_0 (u:=u) h);have hx:w.heap.size≤w.heap.size+1:=by omega
  unfold unv at *;clear h;go_enter Tryz.func28,Tryz.ntmps28;go_wp2_with fail;generalize (w.alloc (.cells (aU a n c u) 82)).alloc (.cells #[.int .i64 0,.int .i64 0,.int .i64 0] 84)=W at *;refine(zae HC _ hw0).mono ?_;rintro e w1 ⟨rfl,hb⟩;replace b0:=hide (zab b0.out hb);replace b1:=hide (zab b1.out hb);replace hw0:=bT hw0 hb;clear hb HC
  by_cases z1:unE u=0
  rotate_left
  {
  have HE:=hide (E1.out z1);have d1: (unE u !=0)=true:=by simpa using z1
  have y0:=zaa b1.out 0 _ rfl;have y1:=zaa b1.out 1 _ rfl;have y2:=zaa b1.out 2 _ rfl;have f0:=zad b1.out 0;have f1:=zad b1.out 1;have f2:=zad b1.out 2;clear z1;generalize unE u=q at *;go_wp2_with fail;refine bodyPost_ret (v:=.tuple #[usv us0,.int .i64 q]) (by simp [results,Tryz.results28,go_sem,usv,us0,y0,y1,y2]) rfl ?_;rw [HE.out];exact⟨rfl,((hw0.setCell hx _).setCell hx _).setCell hx _⟩
  }
  have HE:=hide (E0.out z1);have HSt:=hide (HS.out (zjw z1).1 _ hw0);rw [z1];clear z1 E1 E0 HS;have x0:=zaa b0.out 0 _ rfl;have x1:=zaa b0.out 1 _ rfl;go_wp2_with fail;refine(zae HSt).mono ?_;rintro e w2 ⟨rfl,hb⟩;replace b1:=hide (zab b1.out hb);replace hw0:=bT hw0 hb;clear hb HSt x0 x1;have y0:=zaa b1.out 0 _ rfl;have y1:=zaa b1.out 1 _ rfl;have y2:=zaa b1.out 2 _ rfl;have f0:=zad b1.out 0;have f1:=zad b1.out 1;have f2:=zad b1.out 2;generalize stOf u.ws=s at *;unfold usv;go_wp2_with fail;refine bodyPost_ret (v:=.tuple #[usv s,.int .i64 0]) (by simp [results,Tryz.results28,go_sem,usv,y0,y1,y2]) rfl ?_;rw [HE.out];exact⟨rfl,((hw0.setCell hx _).setCell hx _).setCell hx _⟩
theorem zqw: (Tryz.prog.info? 28).map (fun i=>(i.zero,i.size,i.bytes))=some (some (.agg #[.slice none 0 0,.int .i64 0]),2,32):=by kernel_rfl
theorem zp0 (a:Option Addr) (n c:Nat) (fu x y:Int) (up:Bool) (w:World):
    (Instr.field 82 (.agg #[.slice a n c,.int .i64 fu,.bool up,.int .i64 x,.int .i64 y]) 0).run Tryz.prog w=.ok (.agg #[.slice a n c,.int .i64 fu]) w:=by
  obtain ⟨i0,hi0,hz0,hz1,hz2⟩:=info_parts zqw
  simp [Instr.field,run_underlying Tryz.underlying82,part,go_sem,isAgg,sizeOf,typeInfo,asAgg,hi0,hz1]
def bootS (u:Un):Un×Int:=if unE u≠0 then(un0,unE u) else(⟨u.ws,-1,true,0,0⟩,0)
theorem bootS_e (h:unE u≠0):bootS u= (un0,unE u):=by unfold bootS;rw [if_pos h]
theorem bootS_0 (h:unE u=0):bootS u= (⟨u.ws,-1,true,0,0⟩,0):=by unfold bootS;rw [if_neg (by simpa using h)]
def UnAns (w:World) (r:Un×Int) (e:Ending) (w' :World):Prop:=
  (∃a n c,e=.returned (.tuple #[unv r.1 a n c,.int .i64 r.2])∧BW w' a n c r.1.ws)∧Below w.heap.size w w'
theorem zn8 (u:Un) (a:Option Addr) (n c:Nat) (w:World) (h:BW w a n c u.ws):
    Calls Tryz.prog 32 #[unv u a n c] w (UnAns w (bootS u)):=by
  have hw0:Below w.heap.size w ((w.alloc (.cells (aU a n c u) 82)).alloc (.cells #[.slice none 0 0,.int .i64 0,.bool false,.int .i64 0,.int .i64 0] 82)):=bA2;have b0:Hid (((w.alloc (.cells (aU a n c u) 82)).alloc (.cells #[.slice none 0 0,.int .i64 0,.bool false,.int .i64 0,.int .i64 0] 82)).heap[w.heap.size]?=some (.cells (aU a n c u) 82 (0,0))):=zai (heap_alloc_last _ _) _;have b1:Hid (((w.alloc (.cells (aU a n c u) 82)).alloc (.cells #[.slice none 0 0,.int .i64 0,.bool false,.int .i64 0,.int .i64 0] 82)).heap[w.heap.size+1]?=some (.cells #[.slice none 0 0,.int .i64 0,.bool false,.int .i64 0,.int .i64 0] 82 (0,0))):=zau _ _ _;have HC:=hide (fun W (hW:Below w.heap.size w W)=>zcz u a n c W (h.below hW));have HT:=hide (fun (hb:n * 8≤140737488355328) W (hW:Below w.heap.size w W)=>zhf u a n c W (h.below hW) hb);have E1:=hide (fun h=>bootS_e (u:=u) h);have E0:=hide (fun h=>bootS_0 (u:=u) h);have hx:w.heap.size≤w.heap.size+1:=by omega
  have HN:=hide h.len;unfold unv at *;clear h;go_enter Tryz.func32,Tryz.ntmps32;go_wp2_with fail;generalize (w.alloc (.cells (aU a n c u) 82)).alloc (.cells #[.slice none 0 0,.int .i64 0,.bool false,.int .i64 0,.int .i64 0] 82)=W at *;refine(zae HC _ hw0).mono ?_;rintro e w1 ⟨rfl,hb⟩;replace b0:=hide (zab b0.out hb);replace b1:=hide (zab b1.out hb);replace hw0:=bT hw0 hb;clear hb HC
  by_cases z1:unE u=0
  rotate_left
  {
  have HE:=hide (E1.out z1);have d1: (unE u !=0)=true:=by simpa using z1
  obtain ⟨y0,y1,y2,y3,y4⟩:=cl5 b1.out;obtain ⟨f0,f1,f2,f3,f4⟩:=fr5 b1.out;clear z1;generalize unE u=q at *;go_wp2_with fail;refine bodyPost_ret (v:=.tuple #[unv un0 none 0 0,.int .i64 q]) (by simp [results,Tryz.results32,go_sem,unv,un0,y0,y1,y2,y3,y4]) rfl ?_;rw [HE.out];exact⟨⟨none,0,0,rfl,⟨.inl rfl,rfl,Nat.le_refl _,by decide⟩⟩,((((hw0.setCell hx _).setCell hx _).setCell hx _).setCell hx _).setCell hx _⟩
  }
  have HE:=hide (E0.out z1);have LN:=hide (zjw z1).2.1;have HTw:=hide (HT.out (by rw [←HN.out,LN.out];decide) _ hw0);rw [z1];clear z1 E1 E0 HT;obtain ⟨x0,x1,x2,x3,x4⟩:=cl5 b0.out;go_wp2_with fail;refine(zae HTw).mono ?_;rintro e w2 ⟨⟨a2,c2,rfl,hi2,hf2,hc2⟩,hb⟩;rw [LN.out] at hc2;unfold unv;rw [LN.out];replace b1:=hide (zab b1.out hb);replace hw0:=bT hw0 hb;have HI2:=hide hi2;clear hb HTw x0 x1 x2 x3 x4 hi2 hf2;have hfld:=zp0 a2 192 c2 u.fu u.n u.hv u.up;go_upto_region 5 with fail
  clear hfld;have S0:=hide (heap_alloc_last w2 (.cells #[.slice a2 192 c2,.int .i64 u.fu,.bool true,.int .i64 0,.int .i64 0] 82));have hb3:Below w2.heap.size w2 (w2.alloc (.cells #[.slice a2 192 c2,.int .i64 u.fu,.bool true,.int .i64 0,.int .i64 0] 82)):=bA1;have hX:w.heap.size+1<w2.heap.size:=zak b1.out;have ho2:Hid (Off w2.heap.size a2):=by
    rcases zcu HI2.out w2.heap.size (Nat.le_refl _) with e|h
    { have:=LN.out;rw [e] at this;simp at this }
    { exact h }
  replace HI2:=hide (HI2.out.below hb3);replace b1:=hide (zab b1.out hb3);have hB:=hw0.size;replace hw0:=bT hw0 hb3;clear hb3;generalize w2.heap.size=B at *;generalize w2.alloc (.cells #[.slice a2 192 c2,.int .i64 u.fu,.bool true,.int .i64 0,.int .i64 0] 82)=W3 at *;have s0:=zaa S0.out 0 _ rfl;have s1:=zaa S0.out 1 _ rfl;have r1:=zad S0.out 1;go_upto_region 6 with fail
  clear s0 s1;have S1:Hid ((W3.setCell ⟨B,1,none⟩ (.int .i64 (-1))).heap[B]?=some (.cells #[.slice a2 192 c2,.int .i64 (-1),.bool true,.int .i64 0,.int .i64 0] 82 (0,0))):=by
    show _=_
    have h0:=S0.out;simp only [World.setCell,Array.getElem?_modify]
    simp [h0]
  have hg:=zaw W3 B 1 (.int .i64 (-1));replace b1:=hide (zar b1.out hg (by omega));replace HI2:=hide (zax HI2.out hg ho2.out);replace hw0:=hw0.setCell (p:=⟨B,1,none⟩) hB (.int .i64 (-1));clear hg S0 r1 ho2;generalize W3.setCell ⟨B,1,none⟩ (.int .i64 (-1))=W4 at *;obtain ⟨s0,s1,s2,s3,s4⟩:=cl5 S1.out;obtain ⟨y0,y1,y2,y3,y4⟩:=cl5 b1.out;obtain ⟨f0,f1,f2,f3,f4⟩:=fr5 b1.out;go_wp2_with fail;refine bodyPost_ret (v:=.tuple #[unv ⟨u.ws,-1,true,0,0⟩ a2 192 c2,.int .i64 0]) (by simp [results,Tryz.results32,go_sem,unv,y0,y1,y2,y3,y4]) rfl ?_;rw [HE.out];have hbw:BW W4 a2 192 c2 u.ws:=⟨HI2.out,LN.out,hc2,by decide⟩;have ho:=zfz HI2.out (.inr (by rw [LN.out];decide)) b1.out rfl;exact⟨⟨a2,192,c2,rfl,((((hbw.ne ho _ _).ne ho _ _).ne ho _ _).ne ho _ _).ne ho _ _⟩,((((hw0.setCell hx _).setCell hx _).setCell hx _).setCell hx _).setCell hx _⟩
theorem zo6 (x y z:Int) (w:World): (Instr.field 84 (.agg #[.int .i64 x,.int .i64 y,.int .i64 z]) 0).run Tryz.prog w=.ok (.int .i64 x) w:=by
  simp [Instr.field,run_underlying Tryz.underlying84,part,go_sem,isAgg,asAgg]
def runsS (u:Un):List Int×Int×Int:=if unE u≠0 then([],0,unE u) else imgS u.ws u.fu (stOf u.ws).slot
theorem runsS_e (h:unE u≠0):runsS u= ([],0,unE u):=by unfold runsS;rw [if_pos h]
theorem ztq (h:unE u=0):runsS u=imgS u.ws u.fu (stOf u.ws).slot:=by unfold runsS;rw [if_neg (by simpa using h)]
theorem zn0 (u:Un) (a:Option Addr) (n c:Nat) (w:World) (h:BW w a n c u.ws):
    Calls Tryz.prog 29 #[unv u a n c] w (Shows w (runsS u)):=by
  have hw0:Below w.heap.size w (w.alloc (.cells (aU a n c u) 82)):=bA1;have b0:=hide (heap_alloc_last w (.cells (aU a n c u) 82));have HC:=hide (fun W (hW:Below w.heap.size w W)=>zcz u a n c W (h.below hW));have HS:=hide (fun (e1:lchk u.ws u.fu=0) W (hW:Below w.heap.size w W)=>zgc a n c u.ws u.fu W (h.below hW) e1);have HI:=hide (fun W (hW:Below w.heap.size w W)=>zmf a n c u.ws u.fu (stOf u.ws).slot W (h.below hW).at_ h.len h.max h.cap);have E1:=hide (fun h=>runsS_e (u:=u) h);have E0:=hide (fun h=>ztq (u:=u) h);unfold unv at *;clear h;go_enter Tryz.func29,Tryz.ntmps29;go_wp2_with fail;generalize w.alloc (.cells (aU a n c u) 82)=W at *;refine(zae HC _ hw0).mono ?_;rintro e w1 ⟨rfl,hb⟩;replace b0:=hide (zab b0.out hb);replace hw0:=bT hw0 hb;clear hb HC
  by_cases z1:unE u=0
  rotate_left
  {
  have HE:=hide (E1.out z1);have d1: (unE u !=0)=true:=by simpa using z1
  clear z1;generalize unE u=q at *;go_wp2_with fail;refine bodyPost_ret (v:=.tuple #[.slice none 0 0,.int .i64 0,.int .i64 q]) (by simp [results,Tryz.results29,go_sem]) rfl ?_;exact zhg HE.out hw0
  }
  have HE:=hide (E0.out z1);replace HS:=hide (HS.out (zjw z1).1);rw [z1];clear z1 E1 E0;generalize imgS u.ws u.fu (stOf u.ws).slot=r at *;generalize stOf u.ws=s at *;go_upto_region 4 with fail
  refine wp_region_held_drew (S:=fun W' =>W'.cell? ⟨w.heap.size,0,none⟩=some (.slice a n c)∧W'.cell? ⟨w.heap.size,1,none⟩=some (.int .i64 u.fu)) (by kernel_rfl) ⟨zaa b0.out 0 _ rfl,zaa b0.out 1 _ rfl⟩ ?_;intro hHeld;refine Htk (i:=0) ?_
  try simp only [sq]
  refine Htk (i:=1) ?_
  try simp only [sq]
  refine Htk (i:=2) ?_
  try simp only [sq]
  refine Htk (i:=3) ?_
  try simp only [sq]
  refine wpAnyH_ready (rs:= [4]) (by kernel_rfl) (by simp) ?_;refine AllReadyH.cons (by rfl) (fun K hK=> ?_) AllReadyH.nil;go_simp;have hk0:Below w.heap.size w w1.drew:=hw0.drew;replace b0:Hid (w1.drew.heap[w.heap.size]?=some (.cells (aU a n c u) 82 (0,0))):=b0.out;refine(zae HS _ hk0).mono ?_;rintro e w2 ⟨rfl,hb⟩;unfold usv;replace b0:=hide (zab b0.out hb);replace hk0:=bT hk0 hb;clear hb HS hw0;have hfd:=zo6 s.slot s.by' s.rdy;go_wp2_with fail;refine hK.out _ _ ((show w2.cell? ⟨w.heap.size,0,none⟩=some (.slice a n c)∧w2.cell? ⟨w.heap.size,1,none⟩=some (.int .i64 u.fu) from⟨zaa b0.out 0 _ rfl,zaa b0.out 1 _ rfl⟩)) (fun hHeld=> ?_);clear hK K
  try simp only [sq]
  refine Htk (i:=5) ?_
  try simp only [sq]
  refine wpAnyH_ready (rs:= [6]) (by kernel_rfl) (by simp) ?_;refine AllReadyH.cons (by rfl) (fun K hK=> ?_) AllReadyH.nil;go_simp;refine(zae HI _ hk0).mono ?_;rintro e w3 ⟨⟨a3,n3,c3,rfl,hi3,hn3,hc3,hf3⟩,hb⟩;replace b0:=hide (zab b0.out hb);have hk1:=bT hk0 hb;have I3:=hide hi3;have N3:=hide hn3;have F3:=hide hf3;clear hb HI hi3 hn3 hf3;go_wp2_with fail;refine hK.out _ _ ((show w3.cell? ⟨w.heap.size,0,none⟩=some (.slice a n c)∧w3.cell? ⟨w.heap.size,1,none⟩=some (.int .i64 u.fu) from⟨zaa b0.out 0 _ rfl,zaa b0.out 1 _ rfl⟩)) (fun hHeld=> ?_);clear hK K
  try simp only [sq]
  refine Htk (i:=7) ?_
  try simp only [sq]
  refine Htk (i:=8) ?_
  try simp only [sq]
  refine Htk (i:=9) ?_
  try simp only [sq]
  refine Htk (i:=10) ?_
  try simp only [sq]
  refine Htk (i:=11) ?_
  try simp only [sq]
  refine Htk (i:=12) ?_
  try simp only [sq]
  refine wpAnyH_done (by kernel_rfl) ?_ _;clear hHeld;go_wp2_with fail;refine bodyPost_ret (v:=.tuple #[.slice a3 n3 c3,.int .i64 r.2.1,.int .i64 r.2.2]) (by simp [results,Tryz.results29,go_sem]) rfl ?_;rw [HE.out];exact⟨⟨a3,n3,c3,rfl,I3.out,N3.out,hc3,fun ad e=>by have:=F3.out ad e;have:=hk0.size;omega⟩,hk1⟩
end
section
open Go.RowKit
structure GsOk (s:Gs):Prop where
  n:0≤s.n∧s.n≤8
  none:s.n=0→s=gs0
  one:s.co=true→s.ab=false
  en:s.en=true→decG s=true
theorem gsOk0:GsOk gs0:=⟨by decide,fun _=>rfl,fun h=>(by cases h),fun h=>(by cases h)⟩
theorem gsOk_trn {s:Gs} (h:GsOk s) (hn:s.n≠0) (k:Int):GsOk (trnG s k):=by
  obtain ⟨h1,h2,h3,h4⟩:=h;cases s with
  |mk n v co ab en=>
    unfold trnG decG at *;simp only at *
    split
    { refine⟨h1,fun e=>absurd e hn, ?_, ?_⟩<;>cases co<;>cases ab<;>cases en<;>simp_all [decG] }
    {
    split
    { refine⟨h1,fun e=>absurd e hn, ?_, ?_⟩<;>cases co<;>cases ab<;>cases en<;>simp_all [decG] }
    {
    split
    { refine⟨h1,fun e=>absurd e hn, ?_, ?_⟩<;>cases co<;>cases ab<;>cases en<;>simp_all [decG] }
    { exact⟨h1,h2,h3,h4⟩ }
    }
    }
theorem isBeg_n {r:List Int} (h:isBeg r=true):1≤r.getD 1 0∧r.getD 1 0≤8:=by
  unfold isBeg inB at h
  simp at h
  simpa using h.2.2
theorem gsOk_next {s:Gs} (h:GsOk s) (r:List Int):GsOk (gNext s r):=by
  unfold gNext
  split
  {
  rename_i hb
  have:=isBeg_n hb;exact⟨⟨by show(0:Int)≤r.getD 1 0;omega,this.2⟩,fun e=>by have e:r.getD 1 0=0:=e;omega,fun h=>(by cases h),fun h=>(by cases h)⟩
  }
  {
  split
  {
  rename_i _ ho
  refine gsOk_trn h ?_ _;unfold isOf at ho
  simp at ho
  exact ho.2.1
  }
  { exact h }
  }
theorem gsOk_R (rs:List (List Int)):GsOk (gR rs):=by
  unfold gR;have key: ∀(rs:List (List Int)) (s:Gs),GsOk s→GsOk (rs.foldl gNext s):=by
    intro rs
    induction rs with
    |nil=>exact fun s h=>h
    |cons r rs ih=>exact fun s h=>ih _ (gsOk_next h r)
  exact key rs gs0 gsOk0
theorem zrr (ws:List Int):GsOk (gOf ws):=gsOk_R _
end
section
open Go.RowKit
attribute [local go_sem ↓] Go.wp_at_zero Go.wp_at_succ
def begD (n:Int) (t:Tr) (N:Gt×Bool):Gt×Int×Int:=if N.2=true then(⟨N.1.ws,N.1.fu,N.1.up,t,zbj N.1.vo,zbj N.1.di⟩,n,0) else(N.1,0,0)
def gBeg (ss:List ByteArray) (l:List S2) (g:Gt) (o:Of) (now:Int):Gt×Int×Int:=
  if upE g≠0 then(gt0,0,upE g) else if(decide ((gOf g.ws).n≠0)&&!(gOf g.ws).en)=true then(gt0,0,12) else if(gOf g.ws).n=8 then(gt0,0,8)
  else if takeE ss l g.t o now g.vo.length≠0 then(gt0,0,takeE ss l g.t o now g.vo.length)
  else begD ((gOf g.ws).n+1) (takeT 0 g.t o) (noteG g (gOf g.ws) [1,(gOf g.ws).n+1,o.v])
theorem gBeg_1 (h:upE g≠0):gBeg ss l g o now= (gt0,0,upE g):=by unfold gBeg;rw [if_pos h]
theorem gBeg_2 (h:upE g=0) (h2: (gOf g.ws).n≠0) (h3: (gOf g.ws).en=false):gBeg ss l g o now= (gt0,0,12):=by unfold gBeg;rw [if_neg (by simpa using h),if_pos (by simp [h2,h3])]
theorem gBeg_3 (h:upE g=0) (h2: (gOf g.ws).n=0∨(gOf g.ws).en=true) (h3: (gOf g.ws).n=8):gBeg ss l g o now= (gt0,0,8):=by unfold gBeg;rw [if_neg (by simpa using h),if_neg (by rcases h2 with h2|h2<;>simp [h2]),if_pos h3]
theorem gBeg_4 (h:upE g=0) (h2: (gOf g.ws).n=0∨(gOf g.ws).en=true) (h3: (gOf g.ws).n≠8) (h4:takeE ss l g.t o now g.vo.length≠0):gBeg ss l g o now= (gt0,0,takeE ss l g.t o now g.vo.length):=by unfold gBeg;rw [if_neg (by simpa using h),if_neg (by rcases h2 with h2|h2<;>simp [h2]),if_neg h3,if_pos h4]
theorem gBeg_0 (h:upE g=0) (h2: (gOf g.ws).n=0∨(gOf g.ws).en=true) (h3: (gOf g.ws).n≠8) (h4:takeE ss l g.t o now g.vo.length=0):gBeg ss l g o now=begD ((gOf g.ws).n+1) (takeT 0 g.t o) (noteG g (gOf g.ws) [1,(gOf g.ws).n+1,o.v]):=by unfold gBeg;rw [if_neg (by simpa using h),if_neg (by rcases h2 with h2|h2<;>simp [h2]),if_neg h3,if_neg (by simpa using h4)]
def GBAns (w:World) (r:Gt×Int×Int) (e:Ending) (w' :World):Prop:=(∃m,e=.returned (.tuple #[gtv r.1 m,.int .i64 r.2.1,.int .i64 r.2.2])∧GIn w' m r.1∧GFr w.heap.size m)∧Below w.heap.size w w'
theorem gi_made3 (w:World) (x y z:Int) (t:TypeId):BI (w.alloc (.cells #[.int .i64 x,.int .i64 y,.int .i64 z] t)) (some ⟨w.heap.size,0,none⟩) 3 [x,y,z]:=
  ⟨zd2 _ _ _ _ _ rfl rfl,rfl,by decide⟩
theorem gt_set4 {W:World} {B:Nat} {t:Tr} {n c:Nat} (h:W.heap[B]?=some (gtO g m)):
    ((((W.setCell ⟨B,3,none⟩ (.int .i64 t.r.v)).setCell ⟨B,4,none⟩ (.slice a n c)).setCell ⟨B,5,none⟩ (.int .i64 t.r.t)).setCell ⟨B,6,none⟩ (.int .i64 t.ver)).heap[B]?=some (gtO ⟨g.ws,g.fu,g.up,t,g.vo,g.di⟩ ⟨m.a,m.n,m.c,a,n,c,m.av,m.nv,m.cv,m.ad,m.nd,m.cd⟩):=by
  unfold gtO at *;simp only [World.setCell,Array.getElem?_modify]
  simp [h]
theorem GBox.trust {F B:Nat} {bv bd:Nat} {t:Tr} {n c:Nat} (h:GBox w F B m g bv bd) (hk:BI w a n t.r.ks) (ha:zal F a) (hB:Off B a) (hv:Off bv a) (hd:Off bd a):
    GBox ((((w.setCell ⟨B,3,none⟩ (.int .i64 t.r.v)).setCell ⟨B,4,none⟩ (.slice a n c)).setCell ⟨B,5,none⟩ (.int .i64 t.r.t)).setCell ⟨B,6,none⟩ (.int .i64 t.ver)) F B ⟨m.a,m.n,m.c,a,n,c,m.av,m.nv,m.cv,m.ad,m.nd,m.cd⟩ ⟨g.ws,g.fu,g.up,t,g.vo,g.di⟩ bv bd:=by
  have hT:w.grownBy ((((w.setCell ⟨B,3,none⟩ (.int .i64 t.r.v)).setCell ⟨B,4,none⟩ (.slice a n c)).setCell ⟨B,5,none⟩ (.int .i64 t.r.t)).setCell ⟨B,6,none⟩ (.int .i64 t.ver)) (some B):=zac (zac (zac (zac (World.grownBy.refl _ _) _ _) _ _) _ _) _ _;have o:=h.own;exact⟨gt_set4 h.box,⟨o.ws.turns hT h.oa,hk.turns hT hB,o.av,o.ad,o.vo.turns hT (Ne.symm h.nv),o.di.turns hT (Ne.symm h.nd),o.nv,o.nd,o.fv,o.fd,o.ne,o.wv,o.wd,hv,hd,o.fa,ha⟩,h.fB,h.nv,h.nd,h.oa,hB⟩
theorem GOwn.lower {F F' :Nat} {bv bd:Nat} (h:GOwn w F m g bv bd) (hF:F' ≤F):GOwn w F' m g bv bd:=
  ⟨h.ws,h.ks,h.av,h.ad,h.vo,h.di,h.nv,h.nd,Nat.le_trans hF h.fv,Nat.le_trans hF h.fd,h.ne,h.wv,h.wd,h.kv,h.kd,h.fa.lower hF,h.fk.lower hF⟩
theorem GBox.lower {F F' B:Nat} {bv bd:Nat} (h:GBox w F B m g bv bd) (hF:F' ≤F):GBox w F' B m g bv bd:=⟨h.box,h.own.lower hF,Nat.le_trans hF h.fB,h.nv,h.nd,h.oa,h.ok⟩
theorem tr_keys {t:Tr} (h:trE t=0):t.r.ks≠ []:=by
  have a2:t.r.e=0:=by
    cases z:inR t.ver 0 1000
    { rw [zla z] at h;cases h }
    { rw [zkd z] at h;exact h }
  cases z1:inR t.r.v 1 1000
  { unfold Rt.e at a2;rw [zlw z1] at a2;cases a2 }
  cases z2:inR t.r.ks.length 1 6
  { unfold Rt.e at a2;rw [zle z1 z2] at a2;cases a2 }
  simp [inR] at z2
  intro e;rw [e] at z2
  simp at z2
theorem g3_bi {w' :World} {B b1 b2 n:Nat} {xs:List Int} (h:BI w a n xs) (hg:G3 w w' B b1 b2) (h0:Off B a) (h1:Off b1 a) (h2:Off b2 a):BI w' a n xs:=by
  refine⟨?_,h.len,h.max⟩
  rcases h.at_ with h| ⟨b,off,rfl,hc⟩
  { exact .inl h }
  { exact .inr ⟨b,off,rfl,fun i hi=>by rw [World.cell?_of_block (hg.block b (zah (hc i hi)) (h0 _ rfl) (h1 _ rfl) (h2 _ rfl))];exact hc i hi⟩ }
theorem begS {W W' :World} {B S R:Nat} {k:GA} {s:Gs} (hB:W.heap[B]?=some (gtO g k)) (hS:W.heap[S]?=some (gsO s)) (nB:B≠R) (nS:S≠R) (h:W.grownBy W' (some R)):
    (W'.cell? ⟨B,0,none⟩=some (.slice k.a k.n k.c)∧W'.cell? ⟨B,1,none⟩=some (.int .i64 g.fu)∧W'.cell? ⟨B,2,none⟩=some (.bool g.up)∧W'.cell? ⟨B,3,none⟩=some (.int .i64 g.t.r.v)∧W'.cell? ⟨B,4,none⟩=some (.slice k.ak k.nk k.ck)∧W'.cell? ⟨B,5,none⟩=some (.int .i64 g.t.r.t)∧W'.cell? ⟨B,6,none⟩=some (.int .i64 g.t.ver)∧W'.cell? ⟨B,7,none⟩=some (.slice k.av k.nv k.cv)∧W'.cell? ⟨B,8,none⟩=some (.slice k.ad k.nd k.cd))∧W'.cell? ⟨S,0,none⟩=some (.int .i64 s.n)∧W.grownBy W' (some R):=by
  have b:=zar hB h nB;have x:=zar hS h nS;unfold gtO at b;unfold gsO at x;exact⟨⟨zaa b 0 _ rfl,zaa b 1 _ rfl,zaa b 2 _ rfl,zaa b 3 _ rfl,zaa b 4 _ rfl,zaa b 5 _ rfl,zaa b 6 _ rfl,zaa b 7 _ rfl,zaa b 8 _ rfl⟩,zaa x 0 _ rfl,h⟩
theorem zml (ab:Option Addr) (nb cb:Nat) (ss:List ByteArray) (a1:Option Addr) (n1 c1:Nat) (l:List S2) (g:Gt) (k0:GA) (o:Of) (m:OA) (now:Int) (w:World)
    (h0:BB w ab nb cb ss) (h1:BG w a1 n1 l) (h:GIn w k0 g) (h3:BO w m o) (hT:Tab w):
    Calls Tryz.prog 189 #[bookv ab nb cb,.slice a1 n1 c1,gtv g k0,offv o.v o.u m,.int .i64 now] w (GBAns w (gBeg ss l g o now)):=by
  have hw:Below w.heap.size w ((((w.alloc (.cells #[.slice ab nb cb] 24)).alloc (.cells (aG k0 g) 35)).alloc (.cells (aO m o) 47)).alloc (.cells aY 35)):=((bA2).alloc (by simp;omega) _).alloc (by simp;omega) _;have b0:Hid (((((w.alloc (.cells #[.slice ab nb cb] 24)).alloc (.cells (aG k0 g) 35)).alloc (.cells (aO m o) 47)).alloc (.cells aY 35)).heap[w.heap.size]?=some (.cells #[.slice ab nb cb] 24 (0,0))):=zai (zai (zai (heap_alloc_last _ _) _) _) _;have b1:Hid (((((w.alloc (.cells #[.slice ab nb cb] 24)).alloc (.cells (aG k0 g) 35)).alloc (.cells (aO m o) 47)).alloc (.cells aY 35)).heap[w.heap.size+1]?=some (.cells (aG k0 g) 35 (0,0))):=zai (zai (zau _ _ _) _) _;have b2:Hid (((((w.alloc (.cells #[.slice ab nb cb] 24)).alloc (.cells (aG k0 g) 35)).alloc (.cells (aO m o) 47)).alloc (.cells aY 35)).heap[w.heap.size+1+1]?=some (.cells (aO m o) 47 (0,0))):=zai (zb9 _ _ _ _) _;have b3:Hid (((((w.alloc (.cells #[.slice ab nb cb] 24)).alloc (.cells (aG k0 g) 35)).alloc (.cells (aO m o) 47)).alloc (.cells aY 35)).heap[w.heap.size+1+1+1]?=some (.cells aY 35 (0,0))):=zj3 _ _ _ _ _;have HU:=hide (fun W (hW:Below w.heap.size w W)=>zf8 g k0 W (h.below hW));have HK:=hide (fun W (hW:Below w.heap.size w W)=>take_any ab nb cb ss a1 n1 c1 l g.t k0.ak k0.nk k0.ck o m now k0.nv W (h0.below hW) (h1.below hW) (h.ks.below hW) (h3.below hW) (hT.below hW));have hnv:=h.vo.len;rw [←hnv] at HK;have HP:=hide h;have hx:w.heap.size≤w.heap.size+1+1+1:=by omega
  clear h h0 h1 h3 hT;unfold gtv at HU;unfold bookv trv offv TAns trv at HK;unfold bookv gtv offv;rw [hnv] at HK;have HNV:=hide hnv;clear hnv;go_enter Tryz.func189,Tryz.ntmps189;go_wp2_with fail;generalize ((((w.alloc (.cells #[.slice ab nb cb] 24)).alloc (.cells (aG k0 g) 35)).alloc (.cells (aO m o) 47)).alloc (.cells aY 35))=W at *;refine(zae HU _ hw).mono ?_;rintro e w1 ⟨rfl,hb⟩;replace b0:=hide (zab b0.out hb);replace b1:=hide (zab b1.out hb);replace b2:=hide (zab b2.out hb);replace b3:=hide (zab b3.out hb);replace hw:=bT hw hb;clear hb HU
  by_cases z1:upE g=0
  rotate_left
  {
  have HE:=hide (gBeg_1 (ss:=ss) (l:=l) (o:=o) (now:=now) z1);have d1: (upE g !=0)=true:=by simpa using z1
  rw [zlf z1];unfold gsv gs0;replace b3:=hide (zab b3.out (zaf (Below.refl w1.heap.size w1) (.cells aX 72)));replace hw:Below w.heap.size w (w1.alloc (.cells aX 72)):=hw.alloc hw.size _;clear z1 HK HP;generalize upE g=q at *;go_upto_region 2 with fail
  generalize w1.alloc (.cells aX 72)=W1 at *;obtain ⟨y0,y1,y2,y3,y4,y5,y6,y7,y8⟩:=cl9 b3.out;obtain ⟨f0,f1,f2,f3,f4,f5,f6,f7,f8⟩:=fr9 b3.out;go_wp2_with fail;refine bodyPost_ret (v:=.tuple #[gtv gt0 ga0,.int .i64 0,.int .i64 q]) (by simp [results,Tryz.results189,go_sem,gtv,gt0,ga0,y0,y1,y2,y3,y4,y5,y6,y7,y8]) rfl ?_;rw [HE.out];exact⟨⟨ga0,rfl,gin0 _,gfr0 _⟩,zam hw (zac (zac (zac (zac (zac (zac (zac (zac (zac (World.grownBy.refl W1 (some (w.heap.size+1+1+1))) 0 (.slice none 0 0)) 1 (.int .i64 0)) 2 (.bool false)) 3 (.int .i64 0)) 4 (.slice none 0 0)) 5 (.int .i64 0)) 6 (.int .i64 0)) 7 (.slice none 0 0)) 8 (.slice none 0 0)) hx hw.size⟩
  }
  rw [zld z1];have Z1:=hide z1;obtain ⟨hlw,hlk,hlv,hld⟩:=HP.out.sizes (zko z1);have HT:=hide (fun W (hW:Below w.heap.size w W)=>zdc g k0 W (HP.out.below hW) hlw hlk hlv hld);unfold gtv at HT;clear z1 hlw hlk hlv hld HP;have EA:=hide (fun h2 h3=>gBeg_2 (ss:=ss) (l:=l) (o:=o) (now:=now) Z1.out h2 h3);have EB:=hide (fun h2 h3=>gBeg_3 (ss:=ss) (l:=l) (o:=o) (now:=now) Z1.out h2 h3);have EC:=hide (fun h2 h3 h4=>gBeg_4 (ss:=ss) (l:=l) (o:=o) (now:=now) Z1.out h2 h3 h4);have ED:=hide (fun h2 h3 h4=>gBeg_0 (ss:=ss) (l:=l) (o:=o) (now:=now) Z1.out h2 h3 h4);clear Z1;have hsN:=(zrr g.ws).n;generalize gOf g.ws=s at *;unfold gsv;obtain ⟨hs0,hs8⟩:=hsN;have bS:=hide (heap_alloc_last w1 (.cells (aS s) 72));have hb7:Below w1.heap.size w1 (w1.alloc (.cells (aS s) 72)):=zaf (Below.refl _ _) _;have hS0:=hw.size;have hSR:=zak b3.out;replace b0:=hide (zab b0.out hb7);replace b1:=hide (zab b1.out hb7);replace b2:=hide (zab b2.out hb7);replace b3:=hide (zab b3.out hb7);replace hw:=bT hw hb7;clear hb7;go_upto_region 4 with fail
  generalize (w1.alloc (.cells (aS s) 72))=W1 at *;generalize w1.heap.size=S at *;have hSW:=zak bS.out;obtain ⟨s0,s1,s2,s3,s4⟩:=cl5 bS.out
  go_cut [32] (fun v32 wx=>v32=.bool (decide (s.n≠0)&&!s.en)∧wx=W1)
  case first=>
    by_cases p1:s.n=0
    {
    have d1: (s.n !=0)=false:=by simpa using p1
    go_wp2_with fail
    go_meet
    case rel=>exact⟨congrArg Value.bool (by simp [p1]),rfl⟩
    }
    have d1: (s.n !=0)=true:=by simpa using p1
    cases p2:s.en
    {
    (try dsimp only [aS] at s4);rw [p2] at s4
    go_wp2_with fail
    go_meet
    case rel=>exact⟨congrArg Value.bool (by simp [p1,p2]),rfl⟩
    }
    {
    (try dsimp only [aS] at s4);rw [p2] at s4
    go_wp2_with fail
    go_meet
    case rel=>exact⟨congrArg Value.bool (by simp [p2]),rfl⟩
    }
  obtain ⟨rfl,hW⟩:=hcut;replace hW:=hW.symm;subst hW;cases z2: (decide (s.n≠0)&&!s.en);rotate_left
  {
  have z3:s.n≠0∧s.en=false:=by simpa using z2
  have HE:=hide (EA.out z3.1 z3.2);clear z2 z3 EA EB EC ED HK HT;obtain ⟨y0,y1,y2,y3,y4,y5,y6,y7,y8⟩:=cl9 b3.out;obtain ⟨f0,f1,f2,f3,f4,f5,f6,f7,f8⟩:=fr9 b3.out;go_wp2_with fail;refine bodyPost_ret (v:=.tuple #[gtv gt0 ga0,.int .i64 0,.int .i64 12]) (by simp [results,Tryz.results189,go_sem,gtv,gt0,ga0,y0,y1,y2,y3,y4,y5,y6,y7,y8]) rfl ?_;rw [HE.out];exact⟨⟨ga0,rfl,gin0 _,gfr0 _⟩,zam hw (zac (zac (zac (zac (zac (zac (zac (zac (zac (World.grownBy.refl W1 (some (w.heap.size+1+1+1))) 0 (.slice none 0 0)) 1 (.int .i64 0)) 2 (.bool false)) 3 (.int .i64 0)) 4 (.slice none 0 0)) 5 (.int .i64 0)) 6 (.int .i64 0)) 7 (.slice none 0 0)) 8 (.slice none 0 0)) hx hw.size⟩
  }
  have z3:s.n=0∨s.en=true:=by by_cases e:s.n=0;exact .inl e;exact .inr (by simpa [e] using z2)
  have Z3:=hide z3;clear z2 z3 EA
  by_cases z4:s.n=8
  {
  have HE:=hide (EB.out Z3.out z4)
  (try dsimp only [aS] at s0);rw [z4] at s0
  clear z4 EB EC ED HK HT;obtain ⟨y0,y1,y2,y3,y4,y5,y6,y7,y8⟩:=cl9 b3.out;obtain ⟨f0,f1,f2,f3,f4,f5,f6,f7,f8⟩:=fr9 b3.out;go_wp2_with fail;refine bodyPost_ret (v:=.tuple #[gtv gt0 ga0,.int .i64 0,.int .i64 8]) (by simp [results,Tryz.results189,go_sem,gtv,gt0,ga0,y0,y1,y2,y3,y4,y5,y6,y7,y8]) rfl ?_;rw [HE.out];exact⟨⟨ga0,rfl,gin0 _,gfr0 _⟩,zam hw (zac (zac (zac (zac (zac (zac (zac (zac (zac (World.grownBy.refl W1 (some (w.heap.size+1+1+1))) 0 (.slice none 0 0)) 1 (.int .i64 0)) 2 (.bool false)) 3 (.int .i64 0)) 4 (.slice none 0 0)) 5 (.int .i64 0)) 6 (.int .i64 0)) 7 (.slice none 0 0)) 8 (.slice none 0 0)) hx hw.size⟩
  }
  have d4: (s.n==8)=false:=by simpa using z4
  replace EC:=hide (fun h4=>EC.out Z3.out z4 h4);replace ED:=hide (fun h4=>ED.out Z3.out z4 h4);clear z4 Z3 EB;have k0' :=zaa b0.out 0 _ rfl;have x3:=zaa b1.out 3 _ rfl;have x4:=zaa b1.out 4 _ rfl;have x5:=zaa b1.out 5 _ rfl;have x6:=zaa b1.out 6 _ rfl;have x7:=zaa b1.out 7 _ rfl;obtain ⟨o0,o1,o2,o3,o4,o5,o6⟩:=cl7 b2.out;go_wp2_with fail;refine(zae HK _ hw).mono ?_;rintro e w2 ⟨⟨a5,n5,c5,rfl,hk5,hf5⟩,hb⟩;have hF2:=hw.size;have h12:=hb.size;replace b0:=hide (zab b0.out hb);replace b1:=hide (zab b1.out hb);replace b2:=hide (zab b2.out hb);replace b3:=hide (zab b3.out hb);replace bS:=hide (zab bS.out hb);replace hw:=bT hw hb;clear hb HK d4 k0' x3 x4 x5 x6 x7 o0 o1 o2 o3 o4 o5 o6 s0 s1 s2 s3 s4;rw [HNV.out] at EC ED;have HTK:Hid (takeE ss l g.t o now k0.nv=0→(takeT 0 g.t o).r.ks≠ []):=fun h=>tr_keys (t:=⟨lastR g.t.r o.roots,0⟩) (last_ok h (by decide))
  generalize takeE ss l g.t o now k0.nv=q at *;have ET:Hid (q=0→takeT q g.t o=takeT 0 g.t o):=fun h=>by rw [h]
  generalize takeT q g.t o=t at *
  by_cases zq:q=0
  rotate_left
  {
  have HE:=hide (EC.out zq);have dq: (q !=0)=true:=by simpa using zq
  replace b3:=hide (zab b3.out (zaf (Below.refl w2.heap.size w2) (.cells #[.int .i64 t.r.v,.slice a5 n5 c5,.int .i64 t.r.t,.int .i64 t.ver] 32)));replace hw:Below w.heap.size w (w2.alloc (.cells #[.int .i64 t.r.v,.slice a5 n5 c5,.int .i64 t.r.t,.int .i64 t.ver] 32)):=hw.alloc hw.size _;clear zq EC ED HT ET HTK;go_upto_region 9 with fail
  generalize w2.alloc (.cells #[.int .i64 t.r.v,.slice a5 n5 c5,.int .i64 t.r.t,.int .i64 t.ver] 32)=W2 at *;obtain ⟨y0,y1,y2,y3,y4,y5,y6,y7,y8⟩:=cl9 b3.out;obtain ⟨f0,f1,f2,f3,f4,f5,f6,f7,f8⟩:=fr9 b3.out;go_wp2_with fail;refine bodyPost_ret (v:=.tuple #[gtv gt0 ga0,.int .i64 0,.int .i64 q]) (by simp [results,Tryz.results189,go_sem,gtv,gt0,ga0,y0,y1,y2,y3,y4,y5,y6,y7,y8]) rfl ?_;rw [HE.out];exact⟨⟨ga0,rfl,gin0 _,gfr0 _⟩,zam hw (zac (zac (zac (zac (zac (zac (zac (zac (zac (World.grownBy.refl W2 (some (w.heap.size+1+1+1))) 0 (.slice none 0 0)) 1 (.int .i64 0)) 2 (.bool false)) 3 (.int .i64 0)) 4 (.slice none 0 0)) 5 (.int .i64 0)) 6 (.int .i64 0)) 7 (.slice none 0 0)) 8 (.slice none 0 0)) hx hw.size⟩
  }
  subst zq;replace ED:=hide (ED.out rfl);have hks:t.r.ks≠ []:=by rw [ET.out rfl];exact HTK.out rfl
  rw [←ET.out rfl] at ED;clear EC ET HTK;have HOA:=hide (fun B (hB:w2.heap.size≤B)=>(zcu hk5.at_ B hB).resolve_left hks);have HK5:=hide hk5;have HF5:Hid (zal W1.heap.size a5):=hf5;clear hk5 hf5 hks;have bTk:=hide (heap_alloc_last w2 (.cells #[.int .i64 t.r.v,.slice a5 n5 c5,.int .i64 t.r.t,.int .i64 t.ver] 32));have hb7:Below w2.heap.size w2 (w2.alloc (.cells #[.int .i64 t.r.v,.slice a5 n5 c5,.int .i64 t.r.t,.int .i64 t.ver] 32)):=zaf (Below.refl _ _) _;replace HK5:=hide (HK5.out.below hb7);replace b1:=hide (zab b1.out hb7);replace b2:=hide (zab b2.out hb7);replace b3:=hide (zab b3.out hb7);replace bS:=hide (zab bS.out hb7);replace hw:=bT hw hb7;have hS7:=hb7.size;clear hb7 b0;go_upto_region 11 with fail
  generalize w2.alloc (.cells #[.int .i64 t.r.v,.slice a5 n5 c5,.int .i64 t.r.t,.int .i64 t.ver] 32)=W2 at *;obtain ⟨T,hT2⟩: ∃T,T=w2.heap.size:=⟨_,rfl⟩;rw [←hT2] at bTk HOA hS7 h12⊢;clear hT2;obtain ⟨x0,x1,x2,x3,x4,x5,x6,x7,x8⟩:=cl9 b1.out;go_wp2_with fail;have hF0:=hw.size;refine(zae HT _ hw).mono ?_;rintro e w5 ⟨⟨k,bv,bd,rfl,ho,hoff⟩,hb5⟩;have hlt:=zak b3.out;have hltT:=zak bTk.out;have hltS:=zak bS.out;replace b2:=hide (zab (zab b2.out hb5) (zaf (Below.refl w5.heap.size w5) (.cells (aG k g) 35)));replace b3:=hide (zab (zab b3.out hb5) (zaf (Below.refl w5.heap.size w5) (.cells (aG k g) 35)));replace bS:=hide (zab (zab bS.out hb5) (zaf (Below.refl w5.heap.size w5) (.cells (aG k g) 35)));replace bTk:=hide (zab (zab bTk.out hb5) (zaf (Below.refl w5.heap.size w5) (.cells (aG k g) 35)));have hbx:=hide (ho.boxed hb5.size (hoff _ (.inr (Nat.le_refl _))));have hw5:Below W2.heap.size W2 (w5.alloc (.cells (aG k g) 35)):=zaf hb5 _;have hB:=hb5.size;replace HK5:=hide (HK5.out.below hw5);clear HT ho hoff hb5 b1 x0 x1 x2 x3 x4 x5 x6 x7 x8;unfold gtv;go_upto_region 12 with fail
  generalize (w5.alloc (.cells (aG k g) 35))=W5 at *;generalize w5.heap.size=B at *;obtain ⟨s0,s1,s2,s3,s4⟩:=cl5 bS.out;have o2:=zaa b2.out 2 _ rfl;have hb3:=hide ((Below.refl W5.heap.size W5).alloc (Nat.le_refl _) (.cells #[.int .i64 1,.int .i64 (s.n+1),.int .i64 o.v] 3));have HN:=hide (zgr _ _ _ _ _ _ s (some ⟨W5.heap.size,0,none⟩) 3 3 [1,s.n+1,o.v] _ (hbx.out.below hb3.out) (gi_made3 W5 1 (s.n+1) o.v 3));unfold gsv at HN;go_wp2_with fail;refine(zae HN).mono ?_;rintro e w6 ⟨rfl,⟨k2,hb7⟩,hg7⟩;have g7:=(zcw (B:=B) (b1:=bv) (b2:=bd) hb3.out).trans hg7;have hb8:=g7.bel hw5 hB hb7.own.fv hb7.own.fd hw5.size;replace b3:=hide (g7.blk b3.out (by omega) (by have:=hb7.own.fv;omega) (by have:=hb7.own.fd;omega));replace bS:=hide (g7.blk bS.out (by omega) (by have:=hb7.own.fv;omega) (by have:=hb7.own.fd;omega));replace bTk:=hide (g7.blk bTk.out (by omega) (by have:=hb7.own.fv;omega) (by have:=hb7.own.fd;omega));have fv7:=hb7.own.fv;have fd7:=hb7.own.fd;replace HK5:Hid (BI w6 a5 n5 t.r.ks):=g3_bi HK5.out g7 (HOA.out B (by omega)) (HOA.out bv (by omega)) (HOA.out bd (by omega));replace hw:=bT hw hb8;replace hbx:=hide hb7;clear hg7 g7 hb7 HN hb3 b2 o2 s0 s1 s2 s3 s4;generalize hN:noteG g s [1,s.n+1,o.v]=NN at *;have HN:=hide hN;clear hN;obtain ⟨N,d⟩:=NN;dsimp only at hbx⊢;cases d
  {
  have HE:Hid (gBeg ss l g o now= (N,0,0)):=by show _=_;have e:=ED.out;unfold begD at e;simpa using e
  clear ED;have bC:=hide hbx.out.box;unfold gtO at bC;obtain ⟨x0,x1,x2,x3,x4,x5,x6,x7,x8⟩:=cl9 bC.out;obtain ⟨y0,y1,y2,y3,y4,y5,y6,y7,y8⟩:=cl9 b3.out;obtain ⟨f0,f1,f2,f3,f4,f5,f6,f7,f8⟩:=fr9 b3.out;go_wp2_with fail;refine bodyPost_ret (v:=.tuple #[gtv N k2,.int .i64 0,.int .i64 0]) (by simp [results,Tryz.results189,go_sem,gtv,y0,y1,y2,y3,y4,y5,y6,y7,y8]) rfl ?_;rw [HE.out];have hT:=zac (zac (zac (zac (zac (zac (zac (zac (zac (World.grownBy.refl w6 (some (w.heap.size+1+1+1))) 0 (.slice k2.a k2.n k2.c)) 1 (.int .i64 N.fu)) 2 (.bool N.up)) 3 (.int .i64 N.t.r.v)) 4 (.slice k2.ak k2.nk k2.ck)) 5 (.int .i64 N.t.r.t)) 6 (.int .i64 N.t.ver)) 7 (.slice k2.av k2.nv k2.cv)) 8 (.slice k2.ad k2.nd k2.cd);exact⟨⟨k2,rfl,(hbx.out.own.low hT hlt).gin,hbx.out.own.fr hF0⟩,zam hw hT hx hw.size⟩
  }
  have HE:Hid (gBeg ss l g o now= (forgG ⟨N.ws,N.fu,N.up,t,N.vo,N.di⟩,s.n+1,0)):=by show _=_;have e:=ED.out;unfold begD at e;simpa [forgG] using e
  clear ED;have bC:=hide hbx.out.box;unfold gtO at bC;have x3:=zaa bC.out 3 _ rfl;have x4:=zaa bC.out 4 _ rfl;have x5:=zaa bC.out 5 _ rfl;have x6:=zaa bC.out 6 _ rfl;have f3:=zad bC.out 3;have f4:=zad bC.out 4;have f5:=zad bC.out 5;have f6:=zad bC.out 6;have t0:=zaa bTk.out 0 _ rfl;have t1:=zaa bTk.out 1 _ rfl;have t2:=zaa bTk.out 2 _ rfl;have t3:=zaa bTk.out 3 _ rfl;go_upto_region 15 with fail
  have hbt:=hide ((hbx.out.lower (F' :=W1.heap.size) (by omega)).trust (t:=t) (n:=n5) (c:=c5) HK5.out HF5.out (HOA.out B (by omega)) (HOA.out bv (by omega)) (HOA.out bd (by omega)));have hT:w6.grownBy ((((w6.setCell ⟨B,3,none⟩ (.int .i64 t.r.v)).setCell ⟨B,4,none⟩ (.slice a5 n5 c5)).setCell ⟨B,5,none⟩ (.int .i64 t.r.t)).setCell ⟨B,6,none⟩ (.int .i64 t.ver)) (some B):=zac (zac (zac (zac (World.grownBy.refl _ _) _ _) _ _) _ _) _ _;replace b3:=hide (zar b3.out hT (by omega));replace bS:=hide (zar bS.out hT (by omega));replace hw:=zam hw hT (by omega) hw.size;have hwB:=hw5.size;clear bTk bC hT x3 x4 x5 x6 f3 f4 f5 f6 t0 t1 t2 t3 hbx HK5;generalize ((((w6.setCell ⟨B,3,none⟩ (.int .i64 t.r.v)).setCell ⟨B,4,none⟩ (.slice a5 n5 c5)).setCell ⟨B,5,none⟩ (.int .i64 t.r.t)).setCell ⟨B,6,none⟩ (.int .i64 t.ver))=W6 at *;have HF:=hide (zgq _ _ _ _ _ _ _ hbt.out);go_wp2_with fail;refine(zae HF).mono ?_;rintro e w7 ⟨rfl,hb7,hg7⟩;replace b3:=hide (hg7.blk b3.out (by omega) (by omega) (by omega));replace bS:=hide (hg7.blk bS.out (by omega) (by omega) (by omega));replace hw:=hg7.bel hw (by omega) (by omega) (by omega) hw.size;have HB:=hide hb7;clear hb7 hg7 HF hbt;generalize forgG ⟨N.ws,N.fu,N.up,t,N.vo,N.di⟩=g4 at *;obtain ⟨k4,hk4⟩: ∃k:GA,k= ⟨k2.a,k2.n,k2.c,a5,n5,c5,k2.av,k2.nv,k2.cv,k2.ad,k2.nd,k2.cd⟩:=⟨_,rfl⟩;rw [←hk4] at HB;clear hk4;go_upto_region 16 with fail
  have hR6:=zak b3.out;refine wp_region_held_drew (S:=fun W' =>(W'.cell? ⟨B,0,none⟩=some (.slice k4.a k4.n k4.c)∧W'.cell? ⟨B,1,none⟩=some (.int .i64 g4.fu)∧W'.cell? ⟨B,2,none⟩=some (.bool g4.up)∧W'.cell? ⟨B,3,none⟩=some (.int .i64 g4.t.r.v)∧W'.cell? ⟨B,4,none⟩=some (.slice k4.ak k4.nk k4.ck)∧W'.cell? ⟨B,5,none⟩=some (.int .i64 g4.t.r.t)∧W'.cell? ⟨B,6,none⟩=some (.int .i64 g4.t.ver)∧W'.cell? ⟨B,7,none⟩=some (.slice k4.av k4.nv k4.cv)∧W'.cell? ⟨B,8,none⟩=some (.slice k4.ad k4.nd k4.cd))∧W'.cell? ⟨S,0,none⟩=some (.int .i64 s.n)∧w7.grownBy W' (some (w.heap.size+1+1+1))) (by kernel_rfl) (begS HB.out.box bS.out (by omega) (by omega) (zaj (Below.refl _ _).drew _)) ?_;intro hHeld;refine Htk (i:=0) ?_
  try simp only [sq]
  refine Htk (i:=1) ?_
  try simp only [sq]
  refine Htk (i:=2) ?_
  try simp only [sq]
  refine Htk (i:=3) ?_
  try simp only [sq]
  obtain ⟨y0,y1,y2,y3,y4,y5,y6,y7,y8⟩:=cl9 b3.out;obtain ⟨f0,f1,f2,f3,f4,f5,f6,f7,f8⟩:=fr9 b3.out;have hT:=zac (zac (zac (zac (zac (zac (zac (zac (zac (World.grownBy.refl w7 (some (w.heap.size+1+1+1))) 0 (.slice k4.a k4.n k4.c)) 1 (.int .i64 g4.fu)) 2 (.bool g4.up)) 3 (.int .i64 g4.t.r.v)) 4 (.slice k4.ak k4.nk k4.ck)) 5 (.int .i64 g4.t.r.t)) 6 (.int .i64 g4.t.ver)) 7 (.slice k4.av k4.nv k4.cv)) 8 (.slice k4.ad k4.nd k4.cd);have hG:=hT.trans (zaj (Below.refl _ _).drew (w.heap.size+1+1+1));have hwr:IntKind.i64.wrap (s.n+1)=s.n+1:=by rw [IntKind.wrap_i64];omega
  refine wpAnyH_ready (rs:= [4]) (by kernel_rfl) (by simp) ?_;refine AllReadyH.cons (by rfl) (fun K hK=> ?_) AllReadyH.nil;go_simp;refine hK.out _ _ (begS HB.out.box bS.out (by omega) (by omega) hG) (fun hHeld=> ?_);clear hK K
  try simp only [sq]
  refine Htk (i:=5) ?_
  try simp only [sq]
  refine Htk (i:=6) ?_
  try simp only [sq]
  refine wpAnyH_done (by kernel_rfl) ?_ _;go_wp2_with fail;refine bodyPost_ret (v:=.tuple #[gtv g4 k4,.int .i64 (s.n+1),.int .i64 0]) (by simp [results,Tryz.results189,go_sem,gtv,y0,y1,y2,y3,y4,y5,y6,y7,y8]) rfl ?_;rw [HE.out];exact⟨⟨k4,rfl,(HB.out.own.low hG (by omega)).gin,HB.out.own.fr (by omega)⟩,zam hw hG hx hw.size⟩
end
end Go.Proofs.YthmekfcgdfckaaaGreatDoor
