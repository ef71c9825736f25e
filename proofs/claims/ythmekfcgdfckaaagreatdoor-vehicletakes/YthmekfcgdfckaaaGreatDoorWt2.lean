/- The contract of flash.Program. The contracts of flash.Erase and flash.Read. What a call that answers words and an error hands back ('Reads'); the document's Read. The contract of flash.New, and of wainwrightref.SameFlash. The contract of wainwrightlaw.at. Plain facts on lists of words: '&' of words, what is programmed in parts, twice, or behind an Erase. Flash in variables ('FlVar', 'FBox'); parts of lists. The contracts of log.checkSectors, generationOf, counting, Check: what a log's two sectors say. The contracts of log.longOf, headOf, clean, checkRecord. -/
import Derived.Test.YthmekfcgdfckaaaGreatDoorWt1
import Derived.Deep.DeepCutAuto
set_option maxRecDepth 1000000
set_option maxHeartbeats 0
namespace Go.Proofs.YthmekfcgdfckaaaGreatDoor
variable {xs ws l:List Int} {fuel err:Int} {w w' :World} {a:Option Addr}
section
open Go.RowKit
def andW (words:List Int) (i:Nat) (old:Int):Int:=bits .and .i64 old (words.getD i 0)
def progS (ws:List Int) (fuel:Int) (p:Int) (words:List Int):List Int×Int×Int:=
  if chk ws fuel≠0 then([],0,chk ws fuel) else if fitB ws.length p words.length=false then([],0,5) else if okL words=false then([],0,3)
  else(chg (andW words) p.toNat (cnt fuel words.length) ws,burn fuel (cnt fuel words.length),perr fuel words.length)
theorem zhq (h:chk xs fuel=0): (xs.length % 32=0∧0<xs.length∧xs.length≤192)∧ -1≤fuel∧fuel≤100000∧okL xs=true:=by
  unfold chk at h
  split at h
  { simp at h }
  {
  split at h
  { simp at h }
  {
  rename_i h1 h2
  simp [formB] at h1
  simp [zc0] at h2
  exact⟨h1,h2.1,h2.2.1,h2.2.2⟩
  }
  }
def zal (B:Nat) (a:Option Addr):Prop:=∀x,a=some x→B≤x.block
theorem zal.nil (B:Nat):zal B none:=fun _ h=>by cases h
theorem zal.here {B g:Nat} (h:B≤g) (i:Nat):zal B (some ⟨g,i,none⟩):=fun x hx=>by cases hx;exact h
theorem zag.other (h:zag w a xs) {B b:Nat} (hf:zal B a) (hb:b<B) (i:Nat) (v:Value):zag (w.setCell ⟨b,i,none⟩ v) a xs:=by
  rcases h with h| ⟨g,off,rfl,hc⟩
  { exact .inl h }
  {
  have hg:B≤g:=hf _ rfl;refine .inr ⟨g,off,rfl,fun j hj=> ?_⟩;rw [World.cell?_of_block (w:=w) (Below.heap_setCell w _ v g (by simp;omega))];exact hc j hj
  }
def zbf (w:World) (r:List Int×Int×Int) (e:Ending) (w' :World):Prop:=
  (∃a n c,e=.returned (.tuple #[.agg #[.slice a n c,.int .i64 r.2.1],.int .i64 r.2.2])∧zag w' a r.1∧r.1.length=n∧n≤c∧zal w.heap.size a)∧Below w.heap.size w w'
theorem zaz {r:List Int×Int×Int} (hr:r= ([],0,err)) (hb:Below w.heap.size w w'):zbf w r (.returned (.tuple #[.agg #[.slice none 0 0,.int .i64 0],.int .i64 err])) w' :=by
  subst hr;exact⟨⟨none,0,0,rfl,.inl rfl,rfl,Nat.le_refl _,zal.nil _⟩,hb⟩
theorem zrc (b:Nat) (a2:Option Addr) (n2 c2:Nat) (words:List Int) (i:Nat) (old:Int) (w:World) (hc:w.cell? ⟨b,0,none⟩=some (.slice a2 n2 c2)) (h:zag w a2 words) (hn:words.length=n2) (hi:i<n2):
    Calls Tryz.prog 284 #[.int .i64 i,.int .i64 old,.pointer (some ⟨b,0,none⟩)] w fun e w' =>e=.returned (.int .i64 (andW words i old))∧w' =w:=by
  rcases h with rfl| ⟨b0,o0,rfl,hc0⟩
  { simp at hn;omega }
  have e0:=hc0 i (by omega);have hi2:i<words.length:=by omega
  clear hn hc0;go_enter Tryz.func284,Tryz.ntmps284;go_wp2;go_ret;exact⟨zao (by simp [andW,hi2]),rfl⟩
theorem zo4 (i old:Int) (w:World):Calls Tryz.prog 282 #[.int .i64 i,.int .i64 old] w fun e w' =>e=.returned (.int .i64 65535)∧w' =w:=by
  go_enter Tryz.func282,Tryz.ntmps282;go_wp2;go_ret;exact⟨rfl,rfl⟩
theorem zf9 (a:Option Addr) (n c:Nat) (ws:List Int) (fuel p:Int) (a2:Option Addr) (n2 c2:Nat) (words:List Int) (w:World)
    (h:zag w a ws) (hn:ws.length=n) (hm:n≤maxLen) (h2:zag w a2 words) (hn2:words.length=n2) (hm2:n2≤maxLen) (hp: -9223372036854775808≤p∧p≤9223372036854775807):
    Calls Tryz.prog 252 #[.agg #[.slice a n c,.int .i64 fuel],.int .i64 p,.slice a2 n2 c2] w (zbf w (progS ws fuel p words)):=by
  have HC:=hide (fun W (h:zag W a ws)=>zf5 a n c ws fuel W h hn hm);have HF:=hide (fun W=>zqv a n c fuel p n2 W hm (by unfold maxLen at hm2;omega) hp);have HA:=hide (fun W (h:zag W a2 words)=>zc8 a2 n2 c2 words W h hn2 hm2);have HN:=hide hn;have HN2:=hide hn2;clear hn hn2;have b0: ((((w.alloc (.cells #[.slice a n c,.int .i64 fuel] 28)).alloc (.cells #[.slice a2 n2 c2] 26)).alloc (.cells #[.slice none 0 0,.int .i64 0] 28))).heap[w.heap.size]?=some (.cells #[.slice a n c,.int .i64 fuel] 28 (0,0)):=
    zai (zai (heap_alloc_last _ _) _) _
  have b1: ((((w.alloc (.cells #[.slice a n c,.int .i64 fuel] 28)).alloc (.cells #[.slice a2 n2 c2] 26)).alloc (.cells #[.slice none 0 0,.int .i64 0] 28))).heap[w.heap.size+1]?=some (.cells #[.slice a2 n2 c2] 26 (0,0)):=
    zai (by simpa using heap_alloc_last (w.alloc _) _) _
  have b2: ((((w.alloc (.cells #[.slice a n c,.int .i64 fuel] 28)).alloc (.cells #[.slice a2 n2 c2] 26)).alloc (.cells #[.slice none 0 0,.int .i64 0] 28))).heap[w.heap.size+1+1]?=some (.cells #[.slice none 0 0,.int .i64 0] 28 (0,0)):=
    by simpa using heap_alloc_last ((w.alloc _).alloc _) _
  have hw:Below w.heap.size w (((w.alloc (.cells #[.slice a n c,.int .i64 fuel] 28)).alloc (.cells #[.slice a2 n2 c2] 26)).alloc (.cells #[.slice none 0 0,.int .i64 0] 28)):=
    (bA2).alloc (by simp;omega) _
  have i0:=h.below hw;have i1:=h2.below hw;have B0:=hide b0;have B1:=hide b1;have B2:=hide b2;clear b0 b1 b2;go_enter Tryz.func252,Tryz.ntmps252;go_wp2_with fail;generalize (((w.alloc (.cells #[.slice a n c,.int .i64 fuel] 28)).alloc (.cells #[.slice a2 n2 c2] 26)).alloc (.cells #[.slice none 0 0,.int .i64 0] 28))=W at *;refine(zae HC _ i0).mono ?_;rintro e w1 ⟨rfl,hb1⟩;replace B0:=hide (zab B0.out hb1);replace B1:=hide (zab B1.out hb1);replace B2:=hide (zab B2.out hb1);replace i0:=i0.below hb1;replace i1:=i1.below hb1;replace hw:=bT hw hb1;clear hb1;have c00:=zaa B0.out 0 _ rfl;have c01:=zaa B0.out 1 _ rfl;have c10:=zaa B1.out 0 _ rfl;have c20:=zaa B2.out 0 _ rfl;have c21:=zaa B2.out 1 _ rfl;have f20:=zad B2.out 0;have f21:=zad B2.out 1
  by_cases e1:chk ws fuel=0
  rotate_left
  {
  have e1' : (chk ws fuel !=0)=true:=by simpa using e1
  have hr:Hid (progS ws fuel p words= ([],0,chk ws fuel)):=by show _=_;unfold progS;rw [if_pos e1]
  go_wp2;refine bodyPost_ret (v:=.tuple #[.agg #[.slice none 0 0,.int .i64 0],.int .i64 (chk ws fuel)]) (by simp [results,Tryz.results252,go_sem,c20,c21]) rfl ?_;exact zaz hr.out ((hw.setCell (by simp;omega) _).setCell (by simp;omega) _)
  }
  have e1' : (chk ws fuel !=0)=false:=by simpa using e1
  have E1:=hide e1;clear e1;go_wp2_with fail;refine(zae HF _).mono ?_;rintro e w2 ⟨rfl,hb1⟩;replace B0:=hide (zab B0.out hb1);replace B1:=hide (zab B1.out hb1);replace B2:=hide (zab B2.out hb1);replace i0:=i0.below hb1;replace i1:=i1.below hb1;replace hw:=bT hw hb1;clear hb1;replace c00:=zaa B0.out 0 _ rfl;replace c01:=zaa B0.out 1 _ rfl;replace c10:=zaa B1.out 0 _ rfl;replace c20:=zaa B2.out 0 _ rfl;replace c21:=zaa B2.out 1 _ rfl;replace f20:=zad B2.out 0;replace f21:=zad B2.out 1;cases e2:fitB n p n2
  {
  have hr:Hid (progS ws fuel p words= ([],0,5)):=by show _=_;unfold progS;rw [if_neg (by simpa using E1.out),HN.out,HN2.out,if_pos e2]
  clear e2;go_wp2;refine bodyPost_ret (v:=.tuple #[.agg #[.slice none 0 0,.int .i64 0],.int .i64 5]) (by simp [results,Tryz.results252,go_sem,c20,c21]) rfl ?_;exact zaz hr.out ((hw.setCell (by simp;omega) _).setCell (by simp;omega) _)
  }
  have E2:=hide e2;clear e2;go_wp2_with fail;refine(zae HA _ i1).mono ?_;rintro e w3 ⟨rfl,rfl⟩;cases e3:okL words
  {
  have hr:Hid (progS ws fuel p words= ([],0,3)):=by show _=_;unfold progS;rw [if_neg (by simpa using E1.out),HN.out,HN2.out,if_neg (by simp [E2.out]),if_pos e3]
  clear e3;go_wp2;refine bodyPost_ret (v:=.tuple #[.agg #[.slice none 0 0,.int .i64 0],.int .i64 3]) (by simp [results,Tryz.results252,go_sem,c20,c21]) rfl ?_;exact zaz hr.out ((hw.setCell (by simp;omega) _).setCell (by simp;omega) _)
  }
  have E3:=hide e3;clear e3;have parts:=zhq E1.out;rw [HN.out] at parts;have fitP:0≤p∧(n2:Int)≤(n:Int)- p:=by have:=E2.out;unfold fitB at this;simp at this;omega
  obtain ⟨k,rfl⟩:=Int.eq_ofNat_of_zero_le fitP.1;go_wp2_with fail;refine(znq a n c ws fuel _ i0 HN.out (by omega)).mono ?_;rintro e w4 ⟨g,hg,rfl,ho,hb4⟩;have D0:=hide (zab B0.out hb4);have D1:=hide (zab B1.out hb4);have D2:=hide (zab B2.out hb4);have lt1:=zak B1.out;have lt2:=zak B2.out;have lg:=ho.lt;have q10: (w4.alloc (.cells #[.slice (some ⟨g,0,none⟩) n n,.int .i64 fuel] 28)).cell? ⟨w.heap.size+1,0,none⟩=some (.slice a2 n2 c2):=zaa (zai D1.out _) 0 _ rfl;have hb5:Below w3.heap.size w3 (w4.alloc (.cells #[.slice (some ⟨g,0,none⟩) n n,.int .i64 fuel] 28)):=hb4.alloc hb4.size _;have hbox:Box (w4.alloc (.cells #[.slice (some ⟨g,0,none⟩) n n,.int .i64 fuel] 28)) w4.heap.size g n fuel:=heap_alloc_last _ _;have hown:zat (w4.alloc (.cells #[.slice (some ⟨g,0,none⟩) n n,.int .i64 fuel] 28)) g ws:=zai ho _;have D2' :=hide (zai D2.out (.cells #[.slice (some ⟨g,0,none⟩) n n,.int .i64 fuel] 28));clear c00 c01 c10 c20 c21 f20 f21;go_wp2_with fail;generalize w4.alloc (.cells #[.slice (some ⟨g,0,none⟩) n n,.int .i64 fuel] 28)=w5 at *;refine(zkq 284 #[.pointer (some ⟨w.heap.size+1,0,none⟩)] (andW words) w3.heap.size w4.heap.size g n k n2 fuel ws w5 (.inr ⟨rfl,_,rfl⟩) hbox hown HN.out (by omega) (by omega) (by omega) hb4.size hg (by omega) (by omega) ?_).mono ?_
  {
  intro i old w6 hi hb6;have h6:Below w3.heap.size w3 w6:=hb5.trans hb6;exact zrc _ a2 n2 c2 words i old w6 (zaa (zab B1.out h6) 0 _ rfl) (i1.below h6) HN2.out hi
  }
  rintro e w6 ⟨rfl,hbox6,hown6,hb6⟩;have h6:Below w3.heap.size w3 w6:=hb5.trans hb6;have D3:=hide (zab B2.out h6);have x0:=hbox6.cell0;have x1:=hbox6.cell1;have c20:=zaa D3.out 0 _ rfl;have c21:=zaa D3.out 1 _ rfl;have f20:=zad D3.out 0;have f21:=zad D3.out 1;have hr:Hid (progS ws fuel k words= (chg (andW words) k (cnt fuel n2) ws,burn fuel (cnt fuel n2),perr fuel n2)):=by
    show _=_
    unfold progS;rw [if_neg (by simpa using E1.out),HN.out,HN2.out,if_neg (by simp [E2.out]),if_neg (by simp [E3.out]),Int.toNat_natCast]
  have hw6:Below w.heap.size w w6:=bT hw h6;have hne:g≠w.heap.size+1+1:=by omega
  clear hbox hown hb4 hb5 hb6 q10;go_wp2;refine bodyPost_ret (v:=.tuple #[.agg #[.slice (some ⟨g,0,none⟩) n n,.int .i64 (burn fuel (cnt fuel n2))],.int .i64 (perr fuel n2)]) (by simp [results,Tryz.results252,go_sem,c20,c21]) rfl ?_;refine⟨⟨some ⟨g,0,none⟩,n,n,by rw [hr.out], ?_,by rw [hr.out,zbw,HN.out],Nat.le_refl _,zal.here (by have:=hw.size;omega) 0⟩,(hw6.setCell (by simp;omega) _).setCell (by simp;omega) _⟩;rw [hr.out];exact((hown6.other _ 0 _ hne).other _ 1 _ hne).isInts
end
section
open Go.RowKit
def eraS (ws:List Int) (fuel:Int) (s:Int):List Int×Int×Int:=
  if chk ws fuel≠0 then([],0,chk ws fuel) else if¬(0≤s∧s< (ws.length:Int)/ 32) then([],0,5)
  else(chg (fun _ _=>65535) (s.toNat * 32) (cnt fuel 32) ws,burn fuel (cnt fuel 32),perr fuel 32)
theorem zl0 (a:Option Addr) (n c:Nat) (ws:List Int) (fuel s:Int) (w:World)
    (h:zag w a ws) (hn:ws.length=n) (hm:n≤maxLen):
    Calls Tryz.prog 250 #[.agg #[.slice a n c,.int .i64 fuel],.int .i64 s] w (zbf w (eraS ws fuel s)):=by
  have HC:=hide (fun W (h:zag W a ws)=>zf5 a n c ws fuel W h hn hm);have HN:=hide hn;clear hn;have b0: ((w.alloc (.cells #[.slice a n c,.int .i64 fuel] 28)).alloc (.cells #[.slice none 0 0,.int .i64 0] 28)).heap[w.heap.size]?=some (.cells #[.slice a n c,.int .i64 fuel] 28 (0,0)):=
    zai (heap_alloc_last _ _) _
  have b2: ((w.alloc (.cells #[.slice a n c,.int .i64 fuel] 28)).alloc (.cells #[.slice none 0 0,.int .i64 0] 28)).heap[w.heap.size+1]?=some (.cells #[.slice none 0 0,.int .i64 0] 28 (0,0)):=
    by simpa using heap_alloc_last (w.alloc _) _
  have hw:Below w.heap.size w ((w.alloc (.cells #[.slice a n c,.int .i64 fuel] 28)).alloc (.cells #[.slice none 0 0,.int .i64 0] 28)):=
    bA2
  have i0:=h.below hw;have B0:=hide b0;have B2:=hide b2;clear b0 b2;go_enter Tryz.func250,Tryz.ntmps250;go_wp2_with fail;generalize (w.alloc (.cells #[.slice a n c,.int .i64 fuel] 28)).alloc (.cells #[.slice none 0 0,.int .i64 0] 28)=W at *;refine(zae HC _ i0).mono ?_;rintro e w1 ⟨rfl,hb1⟩;replace B0:=hide (zab B0.out hb1);replace B2:=hide (zab B2.out hb1);replace i0:=i0.below hb1;replace hw:=bT hw hb1;clear hb1;have c00:=zaa B0.out 0 _ rfl;have c01:=zaa B0.out 1 _ rfl;have c20:=zaa B2.out 0 _ rfl;have c21:=zaa B2.out 1 _ rfl;have f20:=zad B2.out 0;have f21:=zad B2.out 1
  by_cases e1:chk ws fuel=0
  rotate_left
  {
  have e1' : (chk ws fuel !=0)=true:=by simpa using e1
  have hr:Hid (eraS ws fuel s= ([],0,chk ws fuel)):=by show _=_;unfold eraS;rw [if_pos e1]
  go_wp2;refine bodyPost_ret (v:=.tuple #[.agg #[.slice none 0 0,.int .i64 0],.int .i64 (chk ws fuel)]) (by simp [results,Tryz.results250,go_sem,c20,c21]) rfl ?_;exact zaz hr.out ((hw.setCell (by simp) _).setCell (by simp) _)
  }
  have e1' : (chk ws fuel !=0)=false:=by simpa using e1
  have E1:=hide e1;clear e1;have parts:=zhq E1.out;rw [HN.out] at parts
  by_cases s0:s<0
  {
  have hr:Hid (eraS ws fuel s= ([],0,5)):=by show _=_;unfold eraS;rw [if_neg (by simpa using E1.out),if_pos (by omega)]
  go_wp2;refine bodyPost_ret (v:=.tuple #[.agg #[.slice none 0 0,.int .i64 0],.int .i64 5]) (by simp [results,Tryz.results250,go_sem,c20,c21]) rfl ?_;exact zaz hr.out ((hw.setCell (by simp) _).setCell (by simp) _)
  }
  by_cases s1:s< (n:Int)/ 32
  rotate_left
  {
  have hr:Hid (eraS ws fuel s= ([],0,5)):=by show _=_;unfold eraS;rw [if_neg (by simpa using E1.out),HN.out,if_pos (by omega)]
  go_wp2;refine bodyPost_ret (v:=.tuple #[.agg #[.slice none 0 0,.int .i64 0],.int .i64 5]) (by simp [results,Tryz.results250,go_sem,c20,c21]) rfl ?_;exact zaz hr.out ((hw.setCell (by simp) _).setCell (by simp) _)
  }
  have hr:Hid (eraS ws fuel s= (chg (fun _ _=>65535) (s.toNat * 32) (cnt fuel 32) ws,burn fuel (cnt fuel 32),perr fuel 32)):=by
    show _=_;unfold eraS;rw [if_neg (by simpa using E1.out),HN.out,if_neg (by omega)]
  obtain ⟨k,rfl⟩:=Int.eq_ofNat_of_zero_le (show 0≤s by omega);have s1' :decide ((n:Int)/ 32≤(k:Int))=false:=by simp;omega
  go_wp2_with fail;refine(znq a n c ws fuel _ i0 HN.out (by omega)).mono ?_;rintro e w4 ⟨g,hg,rfl,ho,hb4⟩;have lt2:=zak B2.out;have lg:=ho.lt;have hb5:Below w1.heap.size w1 (w4.alloc (.cells #[.slice (some ⟨g,0,none⟩) n n,.int .i64 fuel] 28)):=hb4.alloc hb4.size _;have hbox:Box (w4.alloc (.cells #[.slice (some ⟨g,0,none⟩) n n,.int .i64 fuel] 28)) w4.heap.size g n fuel:=heap_alloc_last _ _;have hown:zat (w4.alloc (.cells #[.slice (some ⟨g,0,none⟩) n n,.int .i64 fuel] 28)) g ws:=zai ho _;clear c00 c01 c20 c21 f20 f21;go_wp2_with fail;generalize w4.alloc (.cells #[.slice (some ⟨g,0,none⟩) n n,.int .i64 fuel] 28)=w5 at *;have hcc:=zkq 282 #[] (fun _ _=>65535) w1.heap.size w4.heap.size g n (k * 32) 32 fuel ws w5 (.inl ⟨rfl,rfl⟩) hbox hown HN.out (by omega) (by omega) (by omega) hb4.size hg (by omega) (by omega) (fun i old w6 _ _=>zo4 i old w6);rw [show((k * 32:Nat):Int)= (k:Int)* 32 from by omega] at hcc;refine Calls.mono hcc ?_;clear hcc;rintro e w6 ⟨rfl,hbox6,hown6,hb6⟩;have h6:Below w1.heap.size w1 w6:=hb5.trans hb6;have D3:=hide (zab B2.out h6);have x0:=hbox6.cell0;have x1:=hbox6.cell1;have c20:=zaa D3.out 0 _ rfl;have c21:=zaa D3.out 1 _ rfl;have f20:=zad D3.out 0;have f21:=zad D3.out 1;have hw6:Below w.heap.size w w6:=bT hw h6;have hne:g≠w.heap.size+1:=by omega
  clear hbox hown hb4 hb5 hb6;go_wp2;refine bodyPost_ret (v:=.tuple #[.agg #[.slice (some ⟨g,0,none⟩) n n,.int .i64 (burn fuel (cnt fuel 32))],.int .i64 (perr fuel 32)]) (by simp [results,Tryz.results250,go_sem,c20,c21]) rfl ?_;refine⟨⟨some ⟨g,0,none⟩,n,n,by rw [hr.out], ?_,by rw [hr.out,zbw,HN.out],Nat.le_refl _,zal.here (by have:=hw.size;omega) 0⟩,(hw6.setCell (by simp) _).setCell (by simp) _⟩;rw [hr.out,Int.toNat_natCast];exact((hown6.other _ 0 _ hne).other _ 1 _ hne).isInts
end
section
open Go.RowKit
def Reads (w:World) (r:List Int×Int) (e:Ending) (w' :World):Prop:=
  (∃a n c,e=.returned (.tuple #[.slice a n c,.int .i64 r.2])∧zag w' a r.1∧r.1.length=n∧n≤c∧zal w.heap.size a)∧Below w.heap.size w w'
theorem zfw {r:List Int×Int} (hr:r= ([],err)) (hb:Below w.heap.size w w'):Reads w r (.returned (.tuple #[.slice none 0 0,.int .i64 err])) w' :=by
  subst hr;exact⟨⟨none,0,0,rfl,.inl rfl,rfl,Nat.le_refl _,zal.nil _⟩,hb⟩
end
section
open Go.RowKit
def newS (s:Int):List Int×Int×Int:=if s<1∨6<s then([],0,3) else(List.replicate (s.toNat * 32) 65535,-1,0)
def zdo (L j:Nat):List Int:=List.replicate j 65535++List.replicate (L - j) 0
theorem zmn {L j:Nat} (h:j≤L): (zdo L j).length=L:=by simp [zdo];omega
theorem zoy {L j:Nat} (h:j<L): (zdo L j).set j 65535=zdo L (j+1):=by
  unfold zdo;obtain ⟨r,hr⟩: ∃r,L - j=r+1:=⟨L - j - 1,by omega⟩;rw [List.set_append_right _ _ (by simp),hr,show L - (j+1)=r by omega];rw [List.replicate_succ' (n:=j)]
  simp [List.replicate_succ]
theorem zp1 (L:Nat):zdo L L=List.replicate L 65535:=by simp [zdo]
theorem new_any (s:Int) (w:World):Calls Tryz.prog 136 #[.int .i64 s] w (zbf w (newS s)):=by
  have hw:Below w.heap.size w (w.alloc (.cells #[.slice none 0 0,.int .i64 0] 28)):=bA1
  by_cases s0:s<1
  {
  have hr:Hid (newS s= ([],0,3)):=by show _=_;unfold newS;rw [if_pos (by omega)]
  go_enter Tryz.func136,Tryz.ntmps136;go_wp2;refine bodyPost_ret (v:=.tuple #[.agg #[.slice none 0 0,.int .i64 0],.int .i64 3]) (by simp [results,Tryz.results136,go_sem]) rfl ?_;exact zaz hr.out hw
  }
  by_cases s1:s≤6
  rotate_left
  {
  have hr:Hid (newS s= ([],0,3)):=by show _=_;unfold newS;rw [if_pos (by omega)]
  go_enter Tryz.func136,Tryz.ntmps136;go_wp2;refine bodyPost_ret (v:=.tuple #[.agg #[.slice none 0 0,.int .i64 0],.int .i64 3]) (by simp [results,Tryz.results136,go_sem]) rfl ?_;exact zaz hr.out hw
  }
  have s1' :decide (6<s)=false:=by simp;omega
  obtain ⟨k,rfl⟩:=Int.eq_ofNat_of_zero_le (show 0≤s by omega);have hr:Hid (newS k= (List.replicate (k * 32) 65535,-1,0)):=by show _=_;unfold newS;rw [if_neg (by omega),Int.toNat_natCast]
  have hmk:=zes (k * 32) (w.alloc (.cells #[.slice none 0 0,.int .i64 0] 28)) (by omega);rw [show((k * 32:Nat):Int)= (k:Int)* 32 from by omega] at hmk;have hb1: (w.alloc (.cells #[.slice none 0 0,.int .i64 0] 28)).heap[w.heap.size]?=some (.cells #[.slice none 0 0,.int .i64 0] 28 (0,0)):=heap_alloc_last _ _;have HB:=hide hb1;clear hb1;go_enter Tryz.func136,Tryz.ntmps136;go_wp2
  go_loopw [18] (fun i wr=>∃j:Nat,j≤k * 32∧i=.int .i64 j∧zat wr (w.heap.size+1) (zdo (k * 32) j)∧Below (w.heap.size+1) (w.alloc (.cells #[.slice none 0 0,.int .i64 0] 28)) wr) (fun i _=>k * 32 - (intOf i).toNat)
  case atStart=>
    refine⟨0,Nat.zero_le _,rfl, ?_,(Below.refl _ _).alloc (by simp) _⟩;have:=heap_alloc_last (w.alloc (.cells #[.slice none 0 0,.int .i64 0] 28)) (.cells (vals (List.replicate (k * 32) 0)).toArray 3)
    simpa [zat,zdo] using this
  case round=>
    obtain ⟨j,hj,rfl,how,hbe⟩:=hrel
    by_cases hlt:j<k * 32
    {
    have hjl:j< (zdo (k * 32) j).length:=by rw [zmn hj];exact hlt
    have cw:=how.cell j hjl;have fw:=how.free j;have i1: (j:Int)< (k:Int)* 32:=by omega
    go_wp2
    go_roundw
    case rel=>exact⟨j+1,by omega,by go_num,by rw [←zoy hlt];exact how.set j 65535,hbe.setCell (by simp) _⟩
    case measure=>simp [intOf];omega
    }
    {
    have i1: ¬(j:Int)< (k:Int)* 32:=by omega
    have hb2:=zak HB.out;have D:=hide (show wr.heap[w.heap.size]?=_ from(hbe.block _ (by omega)).trans HB.out);have c0:=zaa D.out 0 _ rfl;have c1:=zaa D.out 1 _ rfl;have f0:=zad D.out 0;have f1:=zad D.out 1;go_wp2;refine bodyPost_ret (v:=.tuple #[.agg #[.slice (some ⟨w.heap.size+1,0,none⟩) (k * 32) (k * 32),.int .i64 (-1)],.int .i64 0]) (by simp [results,Tryz.results136,go_sem,c0,c1]) rfl ?_;refine⟨⟨some ⟨w.heap.size+1,0,none⟩,k * 32,k * 32,by rw [hr.out], ?_,by rw [hr.out];simp,Nat.le_refl _,zal.here (by omega) 0⟩, ?_⟩
    {
    rw [hr.out];obtain rfl:j=k * 32:=by omega
    rw [zp1] at how;exact((how.other _ 0 _ (by omega)).other _ 1 _ (by omega)).isInts
    }
    {
    exact((hw.trans (hbe.mono (by omega))).setCell (by simp) _).setCell (by simp) _
    }
    }
end
section
open Go.RowKit
theorem at_any (k n:Int) (w:World) (h0:0<n) (h1:n≤9223372036854775807) (hk: -9223372036854775808≤k∧k≤9223372036854775807):
    Calls Tryz.prog 20 #[.int .i64 k,.int .i64 n] w fun e w' =>e=.returned (.int .i64 (k % n))∧w' =w:=by
  have hz: (n==0)=false:=by simp;omega
  have t1:=Int.emod_nonneg k (show n≠0 by omega);have t2:=Int.emod_lt_of_pos k h0
  by_cases c:0≤k
  {
  have ht:k.tmod n=k % n:=Int.tmod_eq_emod_of_nonneg c;go_enter Tryz.func20,Tryz.ntmps20;go_wp2;go_ret;exact⟨rfl,rfl⟩
  }
  {
  by_cases d:n∣k
  {
  have ht:k.tmod n=k % n:=by rw [Int.tmod_eq_emod,if_pos (Or.inr d)];omega
  go_enter Tryz.func20,Tryz.ntmps20;go_wp2;go_ret;exact⟨rfl,rfl⟩
  }
  {
  have ht:k.tmod n=k % n - n:=by rw [Int.tmod_eq_emod,if_neg (by simp [d];omega)];omega
  have hneg:k % n - n<0:=by omega
  go_enter Tryz.func20,Tryz.ntmps20;go_wp2;go_ret;exact⟨zao (by omega),rfl⟩
  }
  }
theorem zbf.opened {r:List Int×Int×Int} {e:Ending} (h:zbf w r e w') (hr:r= (ws,fuel,err)):
    ∃a n c,e=.returned (.tuple #[.agg #[.slice a n c,.int .i64 fuel],.int .i64 err])∧zag w' a ws∧ws.length=n∧n≤c∧zal w.heap.size a∧Below w.heap.size w w' :=by
  subst hr;obtain ⟨⟨a,n,c,h1,h2,h3,h4,h6⟩,h5⟩:=h;exact⟨a,n,c,h1,h2,h3,h4,h6,h5⟩
theorem Reads.opened {r:List Int×Int} {e:Ending} (h:Reads w r e w') (hr:r= (ws,err)):
    ∃a n c,e=.returned (.tuple #[.slice a n c,.int .i64 err])∧zag w' a ws∧ws.length=n∧n≤c∧zal w.heap.size a∧Below w.heap.size w w' :=by
  subst hr;obtain ⟨⟨a,n,c,h1,h2,h3,h4,h6⟩,h5⟩:=h;exact⟨a,n,c,h1,h2,h3,h4,h6,h5⟩
end
section
open Go.RowKit
theorem zuy (a:Nat) (ha:a<18446744073709551616): (BitVec.ofInt 64 (a:Int)).toNat=a:=by
  rw [BitVec.toNat_ofInt];omega
theorem and_nat (a b:Nat) (ha:a<65536) (hb:b<65536):bits .and .i64 (a:Int) (b:Int)= ((a&&& b:Nat):Int):=by
  have h:a&&& b<65536:=Nat.lt_of_le_of_lt Nat.and_le_left ha
  show IntKind.i64.wrap ((BitVec.ofInt 64 (a:Int)&&& BitVec.ofInt 64 (b:Int)).toNat:Int)=_
  rw [BitVec.toNat_and,zuy a (by omega),zuy b (by omega),IntKind.wrap_i64];omega
theorem zuv {x y:Int} (hx:okW x=true) (hy:okW y=true):bits .and .i64 x y= ((x.toNat&&& y.toNat:Nat):Int):=by
  simp [okW] at hx hy
  have:=and_nat x.toNat y.toNat (by omega) (by omega);rw [Int.toNat_of_nonneg hx.1,Int.toNat_of_nonneg hy.1] at this;exact this
theorem and_ok {x y:Int} (hx:okW x=true) (hy:okW y=true):okW (bits .and .i64 x y)=true:=by
  rw [zuv hx hy]
  simp [okW] at hx⊢
  have:x.toNat&&& y.toNat≤x.toNat:=Nat.and_le_left;omega
theorem zs0 {y:Int} (hy:okW y=true):bits .and .i64 65535 y=y:=by
  rw [zuv rfl hy]
  simp [okW] at hy
  have h: (65535:Int).toNat&&& y.toNat=y.toNat:=by
    show 65535&&& y.toNat=_
    rw [Nat.and_comm];have:=Nat.and_two_pow_sub_one_eq_mod y.toNat 16
    simp at this
    rw [this];omega
  rw [h];omega
theorem zk5 {i:Nat} (hi:i<xs.length):xs.getD i 0=xs[i]:=by simp [hi]
theorem zk3 (h:okL xs=true) (i:Nat) (hi:i<xs.length):okW (xs.getD i 0)=true:=by
  unfold okL at h;rw [List.all_eq_true] at h;rw [zk5 hi];exact h _ (List.getElem_mem hi)
theorem okL_of (h: ∀i,i<xs.length→okW (xs.getD i 0)=true):okL xs=true:=by
  unfold okL;rw [List.all_eq_true];intro x hx;obtain ⟨i,hi,rfl⟩:=List.getElem_of_mem hx;have:=h i hi
  rwa [zk5 hi] at this
theorem zr4 {ys:List Int} (hl:xs.length=ys.length) (h: ∀i,i<xs.length→xs.getD i 0=ys.getD i 0):xs=ys:=by
  apply List.ext_getElem hl
  intro i h1 h2;have:=h i h1
  rwa [zk5 h1,zk5 h2] at this
theorem zi6 (k:Nat) (h:okL xs=true):okL (xs.take k)=true:=by
  unfold okL at *;rw [List.all_eq_true] at *;exact fun x hx=>h x (List.mem_of_mem_take hx)
theorem zfq (k:Nat) (h:okL xs=true):okL (xs.drop k)=true:=by
  unfold okL at *;rw [List.all_eq_true] at *;exact fun x hx=>h x (List.mem_of_mem_drop hx)
theorem chk_fuel {f:Int} (h:chk ws fuel=0) (h0: -1≤f) (h1:f≤100000):chk ws f=0:=by
  have q:=zhq h
  apply chk_ok
  { exact decide_eq_true q.1 }
  {
  unfold zc0;rw [q.2.2.2];simp;omega
  }
theorem prog_ok {words:List Int} {p:Nat} (h:chk ws fuel=0) (hf:p+words.length≤ws.length) (h2:okL words=true):
    progS ws fuel p words= (chg (andW words) p (cnt fuel words.length) ws,burn fuel (cnt fuel words.length),perr fuel words.length):=by
  unfold progS;rw [if_neg (by simpa using h),if_neg (by unfold fitB;simp;omega),if_neg (by simp [h2]),Int.toNat_natCast]
end
section
open Go.RowKit
attribute [local go_sem ↓] Go.wp_at_zero Go.wp_at_succ
theorem zal.mono {B B' :Nat} (h:zal B a) (hB:B' ≤B):zal B' a:=fun x hx=>Nat.le_trans hB (h x hx)
theorem zag.take (h:zag w a xs) (j:Nat):zag w a (xs.take j):=by
  rcases h with rfl| ⟨b,off,rfl,hc⟩
  { exact .inl (by simp) }
  {
  refine .inr ⟨b,off,rfl,fun i hi=> ?_⟩;have hi' :i<j∧i<xs.length:=by simp at hi;omega
  rw [hc i hi'.2]
  simp [hi'.1]
  }
theorem zag.drop {b off:Nat} (h:zag w (some ⟨b,off,none⟩) xs) (j:Nat):zag w (some ⟨b,off+j,none⟩) (xs.drop j):=by
  rcases h with rfl| ⟨b',off',e,hc⟩
  { exact .inl (by simp) }
  {
  cases e;refine .inr ⟨b,off+j,rfl,fun i hi=> ?_⟩
  simp at hi
  rw [Nat.add_assoc,hc (j+i) (by omega)]
  simp
  }
end
section
open Go.RowKit
attribute [local go_sem ↓] Go.wp_at_zero Go.wp_at_succ
def secS (ws:List Int) (fuel:Int):Int:=if chk ws fuel≠0 then chk ws fuel else if ws.length<64 then 4 else 0
def genS (ws:List Int) (s:Nat):Int:=if ws.getD (s * 32) 0=65535 then 0 else ws.getD (s * 32) 0
def secN (ws:List Int):Nat:=if genS ws 0<genS ws 1 then 1 else 0
def genN (ws:List Int):Int:=if genS ws 0<genS ws 1 then genS ws 1 else genS ws 0
def lchk (ws:List Int) (fuel:Int):Int:=if secS ws fuel≠0 then secS ws fuel else if genN ws=0∨60000<genN ws then 5 else 0
theorem zfc (a:Option Addr) (n c:Nat) (ws:List Int) (fuel:Int) (w:World) (h:zag w a ws) (hn:ws.length=n) (hm:n≤maxLen):
    Calls Tryz.prog 173 #[.agg #[.slice a n c,.int .i64 fuel]] w fun e w' =>e=.returned (.int .i64 (secS ws fuel))∧Below w.heap.size w w' :=by
  have HC:=hide (fun W (h:zag W a ws)=>zf5 a n c ws fuel W h hn hm);have hw:Below w.heap.size w (w.alloc (.cells #[.slice a n c,.int .i64 fuel] 28)):=bA1;have B0:=hide (heap_alloc_last w (.cells #[.slice a n c,.int .i64 fuel] 28));have i0:=h.below hw;have HN:=hide hn;clear hn;unfold maxLen at hm;go_enter Tryz.func173,Tryz.ntmps173;go_wp2_with fail;generalize w.alloc (.cells #[.slice a n c,.int .i64 fuel] 28)=W at *;refine(zae HC _ i0).mono ?_;rintro e w1 ⟨rfl,hb1⟩;have hw1:=bT hw hb1
  by_cases e1:chk ws fuel=0
  rotate_left
  {
  have e1' : (chk ws fuel !=0)=true:=by simpa using e1
  have hr:Hid (secS ws fuel=chk ws fuel):=by show _=_;unfold secS;rw [if_pos e1]
  go_wp2;go_ret;exact⟨zao hr.out.symm,hw1⟩
  }
  have e1' : (chk ws fuel !=0)=false:=by simpa using e1
  have E1:=hide e1;clear e1;have c00:=zaa (zab B0.out hb1) 0 _ rfl
  by_cases hl:n<64
  {
  have hr:Hid (secS ws fuel=4):=by show _=_;unfold secS;rw [if_neg (by simpa using E1.out),if_pos (by rw [HN.out];exact hl)]
  go_wp2;go_ret;exact⟨zao hr.out.symm,hw1⟩
  }
  {
  have hr:Hid (secS ws fuel=0):=by show _=_;unfold secS;rw [if_neg (by simpa using E1.out),if_neg (by rw [HN.out];exact hl)]
  have hl' : ¬(n:Int)<64:=by omega
  go_wp2;go_ret;exact⟨zao hr.out.symm,hw1⟩
  }
theorem zjg (a:Option Addr) (n c:Nat) (ws:List Int) (fuel:Int) (s:Nat) (w:World) (h:zag w a ws) (hn:ws.length=n) (hm:n≤maxLen) (hs:s * 32<n):
    Calls Tryz.prog 174 #[.agg #[.slice a n c,.int .i64 fuel],.int .i64 s] w fun e w' =>e=.returned (.int .i64 (genS ws s))∧Below w.heap.size w w' :=by
  have hw:Below w.heap.size w (w.alloc (.cells #[.slice a n c,.int .i64 fuel] 28)):=bA1;have i0:=h.below hw;have HN:=hide hn;have hs2:s * 32<ws.length:=by omega
  clear hn;unfold maxLen at hm
  rcases i0 with rfl| ⟨b,off,rfl,hc⟩
  { simp at hs2 }
  have e0:=hc (s * 32) hs2;clear hc;have i1: (0:Int)≤(s:Int)* 32:=by omega
  have i2: (s:Int)* 32< (n:Int):=by omega
  have i4: ((s:Int)* 32).toNat=s * 32:=by omega
  obtain ⟨g,hg⟩: ∃g,g=ws.getD (s * 32) 0:=⟨_,rfl⟩;rw [←hg] at e0
  by_cases hz:g=65535
  {
  have hr:Hid (genS ws s=0):=by show _=_;unfold genS;rw [←hg,if_pos hz]
  subst hz;clear hg;go_enter Tryz.func174,Tryz.ntmps174;go_wp2;go_ret;exact⟨zao hr.out.symm,hw⟩
  }
  {
  have hr:Hid (genS ws s=g):=by show _=_;unfold genS;rw [←hg,if_neg hz]
  have hz' : (g !=65535)=true:=by simpa using hz
  clear hg;go_enter Tryz.func174,Tryz.ntmps174;go_wp2;go_ret;exact⟨zao hr.out.symm,hw⟩
  }
def genI (ws:List Int) (s:Int):Int:=genS ws s.toNat
theorem zjs (a:Option Addr) (n c:Nat) (ws:List Int) (fuel:Int) (s:Int) (w:World) (h:zag w a ws) (hn:ws.length=n) (hm:n≤maxLen) (hs:0≤s∧s<2) (h64:64≤n):
    Calls Tryz.prog 174 #[.agg #[.slice a n c,.int .i64 fuel],.int .i64 s] w fun e w' =>e=.returned (.int .i64 (genI ws s))∧Below w.heap.size w w' :=by
  obtain ⟨k,rfl⟩:=Int.eq_ofNat_of_zero_le hs.1;exact zjg a n c ws fuel k w h hn hm (by omega)
def CountsAns (w:World) (ws:List Int) (e:Ending) (w' :World):Prop:=
  e=.returned (.tuple #[.int .i64 (secN ws),.int .i64 (genN ws)])∧Below w.heap.size w w'
theorem ret_two {a b c d:Int} (h1:a=c) (h2:b=d):Ending.returned (.tuple #[.int .i64 a,.int .i64 b])=.returned (.tuple #[.int .i64 c,.int .i64 d]):=by rw [h1,h2]
theorem zfv (a:Option Addr) (n c:Nat) (ws:List Int) (fuel:Int) (w:World) (h:zag w a ws) (hn:ws.length=n) (hm:n≤maxLen) (h64:64≤n):
    Calls Tryz.prog 107 #[.agg #[.slice a n c,.int .i64 fuel]] w (CountsAns w ws):=by
  have hw:Below w.heap.size w (w.alloc (.cells #[.slice a n c,.int .i64 fuel] 28)):=bA1;have i0:=h.below hw;have HG:=hide (fun W (s:Int) (h:zag W a ws) (hs:0≤s∧s<2)=>zjs a n c ws fuel s W h hn hm hs h64);have B0:=hide (heap_alloc_last w (.cells #[.slice a n c,.int .i64 fuel] 28));have HN:=hide hn;clear hn;unfold maxLen at hm;go_enter Tryz.func107,Tryz.ntmps107;go_upto_region 1 with fail
  generalize w.alloc (.cells #[.slice a n c,.int .i64 fuel] 28)=W at *;have x0:=zaa B0.out 0 (.slice a n c) rfl;have x1:=zaa B0.out 1 (.int .i64 fuel) rfl;have lt0:=zak B0.out
  go_cut [4,5] (fun v4 v5 wx=>v4=.int .i64 (genI ws 0)∧v5=.int .i64 (genI ws 1)∧Below W.heap.size W wx)
  case first=>
    have hW:Below W.heap.size W W:=Below.refl _ _;go_wp2_with fail
    go_region_held3 (fun w' =>w'.cell? ⟨w.heap.size,0,none⟩=some (.slice a n c)∧w'.cell? ⟨w.heap.size,1,none⟩=some (.int .i64 fuel)) (first|exact⟨by assumption,by assumption⟩|go_keep)
      ((go_at_call 174;refine(zae HG _ _ ?_ ?_).mono ?_;(first|exact i0|exact i0.below hW);decide;rintro e w1 ⟨rfl,hb1⟩;replace hW:Below W.heap.size W w1:=(by first|exact hW.drew.trans (hb1.mono hW.drew.size)|exact (bT hW hb1));have z0:w1.cell? ⟨w.heap.size,0,none⟩=some (.slice a n c):=(by rw [hW.cell lt0];exact x0);have z1:w1.cell? ⟨w.heap.size,1,none⟩=some (.int .i64 fuel):=(by rw [hW.cell lt0];exact x1)))
    all_goals
      go_wp2
      go_meet
      case rel=>exact⟨rfl,rfl,hW⟩
  case rest=>
    obtain ⟨rfl,rfl,hW⟩:=hcut;obtain ⟨wB,rfl⟩: ∃wB:World,wB=wc:=⟨_,rfl⟩;have hwB:=bT hw hW;obtain ⟨g0,hg0⟩: ∃g,g=genI ws 0:=⟨_,rfl⟩;obtain ⟨g1,hg1⟩: ∃g,g=genI ws 1:=⟨_,rfl⟩;rw [←hg0,←hg1]
    by_cases hlt:g0<g1
    {
    have hr:Hid (secN ws=1∧genN ws=g1):=by show _∧_;unfold secN genN;rw [show genS ws 0=g0 from hg0.symm,show genS ws 1=g1 from hg1.symm,if_pos hlt,if_pos hlt];exact⟨rfl,rfl⟩
    clear hg0 hg1;go_wp2;go_ret2;exact⟨ret_two (by rw [hr.out.1];rfl) hr.out.2.symm,hwB⟩
    }
    {
    have hr:Hid (secN ws=0∧genN ws=g0):=by show _∧_;unfold secN genN;rw [show genS ws 0=g0 from hg0.symm,show genS ws 1=g1 from hg1.symm,if_neg hlt,if_neg hlt];exact⟨rfl,rfl⟩
    have hlt' :decide (g0<g1)=false:=by simpa using hlt
    clear hg0 hg1;go_wp2;go_ret2;exact⟨ret_two (by rw [hr.out.1];rfl) hr.out.2.symm,hwB⟩
    }
theorem zd5 (a:Option Addr) (n c:Nat) (ws:List Int) (fuel:Int) (w:World) (h:zag w a ws) (hn:ws.length=n) (hm:n≤maxLen):
    Calls Tryz.prog 106 #[.agg #[.slice a n c,.int .i64 fuel]] w fun e w' =>e=.returned (.int .i64 (lchk ws fuel))∧Below w.heap.size w w' :=by
  have hw:Below w.heap.size w (w.alloc (.cells #[.slice a n c,.int .i64 fuel] 28)):=bA1;have i0:=h.below hw;have HS:=hide (fun W (h:zag W a ws)=>zfc a n c ws fuel W h hn hm);have HG:=hide (fun W (h:zag W a ws) (h64:64≤n)=>zfv a n c ws fuel W h hn hm h64);have B0:=hide (heap_alloc_last w (.cells #[.slice a n c,.int .i64 fuel] 28));have HN:=hide hn;clear hn;go_enter Tryz.func106,Tryz.ntmps106;go_wp2_with fail;generalize w.alloc (.cells #[.slice a n c,.int .i64 fuel] 28)=W at *;refine(zae HS _ i0).mono ?_;rintro e w1 ⟨rfl,hb1⟩;have hw1:=bT hw hb1
  by_cases e1:secS ws fuel=0
  rotate_left
  {
  have e1' : (secS ws fuel !=0)=true:=by simpa using e1
  have hr:Hid (lchk ws fuel=secS ws fuel):=by show _=_;unfold lchk;rw [if_pos e1]
  go_wp2;go_ret;exact⟨zao hr.out.symm,hw1⟩
  }
  have e1' : (secS ws fuel !=0)=false:=by simpa using e1
  have E1:=hide e1;have h64:64≤n:=by
    rw [←HN.out];unfold secS at e1
    split at e1
    { rename_i h;exact absurd e1 h }
    {
    split at e1
    { simp at e1 }
    { omega }
    }
  clear e1;have c00:=zaa (zab B0.out hb1) 0 _ rfl;have c01:=zaa (zab B0.out hb1) 1 _ rfl;go_wp2_with fail;refine(zae HG _ (i0.below hb1) h64).mono ?_;rintro e w2 ⟨rfl,hb2⟩;have hw2:=bT hw1 hb2;obtain ⟨g,hg⟩: ∃g,g=genN ws:=⟨_,rfl⟩;rw [←hg]
  by_cases g0:g=0
  {
  have hr:Hid (lchk ws fuel=5):=by show _=_;unfold lchk;rw [if_neg (by simpa using E1.out),if_pos (by rw [←hg];exact .inl g0)]
  subst g0;clear hg;go_wp2;go_ret;exact⟨zao hr.out.symm,hw2⟩
  }
  have g0' : (g==0)=false:=by simpa using g0
  by_cases g1:60000<g
  {
  have hr:Hid (lchk ws fuel=5):=by show _=_;unfold lchk;rw [if_neg (by simpa using E1.out),if_pos (by rw [←hg];exact .inr g1)]
  clear hg;go_wp2;go_ret;exact⟨zao hr.out.symm,hw2⟩
  }
  {
  have hr:Hid (lchk ws fuel=0):=by show _=_;unfold lchk;rw [if_neg (by simpa using E1.out),if_neg (by rw [←hg];omega)]
  have g1' :decide (60000<g)=false:=by simpa using g1
  clear hg;go_wp2;go_ret;exact⟨zao hr.out.symm,hw2⟩
  }
end
section
open Go.RowKit
attribute [local go_sem ↓] Go.wp_at_zero Go.wp_at_succ
def longS (l:List Int):Nat:=match l with
  | []=>0
  |x::r=>if 42241≤x∧x≤42244∧x - 42240≤r.length then(x - 42240).toNat else 0
theorem znb (h:l= []∨¬(42241≤l.getD 0 0∧l.getD 0 0≤42244∧l.getD 0 0 - 42240<l.length)):longS l=0:=by
  cases l with
  |nil=>rfl
  |cons x r=>
    rcases h with h|h
    { cases h }
    {
    simp at h
    simp only [longS];rw [if_neg (by omega)]
    }
theorem longS_yes (h0:l≠ []) (h:42241≤l.getD 0 0∧l.getD 0 0≤42244∧l.getD 0 0 - 42240<l.length): (longS l:Int)=l.getD 0 0 - 42240:=by
  cases l with
  |nil=>exact absurd rfl h0
  |cons x r=>
    simp at h⊢
    simp only [longS];rw [if_pos (by omega)];omega
theorem longS_le (l:List Int):longS l≤4:=by
  unfold longS
  split
  { omega }
  {
  split<;>omega
  }
theorem zon (h:0<longS l):longS l<l.length:=by
  cases l with
  |nil=>simp [longS] at h
  |cons x r=>
    simp only [longS] at h⊢
    split at h
    {
    rename_i hc
    rw [if_pos hc]
    simp
    omega
    }
    {
    omega
    }
theorem zjo (a:Option Addr) (n c:Nat) (l:List Int) (w:World) (h:zag w a l) (hn:l.length=n) (hm:n≤192) (hok:okL l=true):
    Calls Tryz.prog 175 #[.slice a n c] w fun e w' =>e=.returned (.int .i64 (longS l))∧w' =w:=by
  have HN:=hide hn
  by_cases h0:n=0
  {
  subst h0;have hr:Hid (longS l=0):=znb (.inl (List.eq_nil_of_length_eq_zero hn));clear hn;go_enter Tryz.func175,Tryz.ntmps175;go_wp2;go_ret;exact⟨zao (by rw [hr.out];rfl),rfl⟩
  }
  have h0' : ((n:Int)==0)=false:=by simp;omega
  rcases h with rfl| ⟨b,off,rfl,hc⟩
  { simp at hn;omega }
  have e0:=hc 0 (by omega);rw [Nat.add_zero] at e0;have hw0:=zk3 hok 0 (by omega);have HL:Hid (l≠ []∧l.length=n):=⟨fun e=>by subst e;simp at hn;omega,hn⟩;have HNo:=hide (@znb l);have HYes:=hide (@longS_yes l);obtain ⟨x,hx⟩: ∃x,x=l.getD 0 0:=⟨_,rfl⟩;rw [←hx] at e0 hw0;rw [←hx] at HNo HYes
  simp [okW] at hw0
  clear hn hc hx hok;have hn0: (0:Int)< (n:Int):=by omega
  by_cases c1:x - 42240<1
  {
  have hr:Hid (longS l=0):=HNo.out (.inr (by omega));go_enter Tryz.func175,Tryz.ntmps175;go_wp2;go_ret;exact⟨zao (by rw [hr.out];rfl),rfl⟩
  }
  have c1' :decide (x - 42240<1)=false:=by simpa using c1
  by_cases c2:4<x - 42240
  {
  have hr:Hid (longS l=0):=HNo.out (.inr (by omega));go_enter Tryz.func175,Tryz.ntmps175;go_wp2;go_ret;exact⟨zao (by rw [hr.out];rfl),rfl⟩
  }
  have c2' :decide (4<x - 42240)=false:=by simpa using c2
  by_cases c3: (n:Int)≤x - 42240
  {
  have hr:Hid (longS l=0):=HNo.out (.inr (by rw [HL.out.2];omega));go_enter Tryz.func175,Tryz.ntmps175;go_wp2;go_ret;exact⟨zao (by rw [hr.out];rfl),rfl⟩
  }
  {
  have c3' :decide ((n:Int)≤x - 42240)=false:=by simpa using c3
  have hr:Hid ((longS l:Int)=x - 42240):=HYes.out HL.out.1 (by rw [HL.out.2];omega);go_enter Tryz.func175,Tryz.ntmps175;go_wp2;go_ret;exact⟨zao hr.out.symm,rfl⟩
  }
def headS (n:Nat):Int:=42240+n
theorem or_head (n:Nat) (h:n≤4):bits .or .i64 42240 (n:Int)=headS n:=by
  have:n=0∨n=1∨n=2∨n=3∨n=4:=by omega
  rcases this with rfl|rfl|rfl|rfl|rfl<;>decide+kernel
theorem zj9 (a:Option Addr) (n c:Nat) (w:World) (hm:n≤4):
    Calls Tryz.prog 288 #[.slice a n c] w fun e w' =>e=.returned (.int .i64 (headS n))∧w' =w:=by
  have ho:=or_head n hm;go_enter Tryz.func288,Tryz.ntmps288;go_wp2;go_ret;exact⟨rfl,rfl⟩
def zce (l:List Int):Bool:=l.all (fun x=>x==65535)
theorem zpf (v:Int) (w:World):Calls Tryz.prog 303 #[.int .i64 v] w fun e w' =>e=.returned (.bool (v !=65535))∧w' =w:=by
  go_enter Tryz.func303,Tryz.ntmps303;go_wp2;go_ret;exact⟨rfl,rfl⟩
theorem zps {k:Nat} (hk:k<xs.length) (h:zce (xs.take k)=true) (hv: (xs[k] !=65535)=false):zce (xs.take (k+1))=true:=by
  unfold zce at h⊢;rw [List.take_succ_eq_append_getElem hk,List.all_append,h]
  simpa using hv
theorem zpa {k:Nat} (hk:k<xs.length) (hv: (xs[k] !=65535)=true):zce xs=false:=by
  unfold zce;rw [List.all_eq_false];exact⟨xs[k],List.getElem_mem hk,by simpa using hv⟩
theorem zkc (a:Option Addr) (n c:Nat) (xs:List Int) (w:World) (h:zag w a xs) (hn:xs.length=n) (hm:n≤maxLen):
    Calls Tryz.prog 259 #[.slice a n c,.func (.func 303) #[] #[]] w fun e w' =>(∃q:Int,e=.returned (.int .i64 q)∧decide (0≤q)=!zce xs)∧w' =w:=by
  have HP:=hide zpf;unfold maxLen at hm;have HN:Hid (xs.length=n):=hn;go_enter Tryz.func259,Tryz.ntmps259;go_wp2
  go_loop [8] (fun i=>∃k:Nat,k≤n∧i=.int .i64 k∧Hid (zce (xs.take k)=true)) (fun i=>n - (intOf i).toNat)
  case atStart=>exact⟨0,Nat.zero_le _,rfl,rfl⟩
  case round=>
    obtain ⟨k,hk,rfl,ht⟩:=hrel
    by_cases hlt:k<n
    {
    rcases h with rfl| ⟨b0,o0,rfl,hc0⟩
    { simp at hn;omega }
    have hkx:k<xs.length:=by omega
    have e0:=hc0 k hkx;clear hn hc0;go_wp2_with fail;refine(zae HP _ _).mono ?_;rintro e w' ⟨rfl,rfl⟩;cases hv: (xs[k] !=65535)
    {
    have HV:Hid ((xs[k] !=65535)=false):=hv;clear hv;go_wp2
    go_round
    case rel=>exact⟨k+1,by omega,by go_num,zps hkx ht.out HV.out⟩
    case measure=>simp [intOf];omega
    }
    {
    have HV:Hid ((xs[k] !=65535)=true):=hv;clear hv;go_wp2;go_ret;exact⟨⟨k,rfl,by rw [zpa hkx HV.out];simp⟩,rfl⟩
    }
    }
    {
    go_wp2;go_ret;have hx:=ht.out;rw [List.take_of_length_le (by omega)] at hx;exact⟨⟨-1,rfl,by rw [hx];rfl⟩,rfl⟩
    }
theorem zhl (a:Option Addr) (n c:Nat) (xs:List Int) (w:World) (h:zag w a xs) (hn:xs.length=n) (hm:n≤maxLen):
    Calls Tryz.prog 210 #[.slice a n c,.func (.func 303) #[] #[]] w fun e w' =>e=.returned (.bool (!zce xs))∧w' =w:=by
  have hc:=hide (zkc a n c xs w h hn hm);clear hn;go_enter Tryz.func210,Tryz.ntmps210;go_wp2_with fail;refine(zae hc).mono ?_;rintro e w' ⟨⟨q,rfl,hq⟩,rfl⟩;go_wp2;go_ret;exact⟨rfl,rfl⟩
theorem clean_any (a:Option Addr) (n c:Nat) (xs:List Int) (w:World) (h:zag w a xs) (hn:xs.length=n) (hm:n≤maxLen):
    Calls Tryz.prog 287 #[.slice a n c] w fun e w' =>e=.returned (.bool (zce xs))∧w' =w:=by
  have hc:=hide (zhl a n c xs w h hn hm);clear hn;go_enter Tryz.func287,Tryz.ntmps287;go_wp2_with fail;refine(zae hc).mono ?_;rintro e w' ⟨rfl,rfl⟩;go_wp2;go_ret;exact⟨zan (by simp),rfl⟩
def recE (r:List Int):Int:=if r.length<1∨4<r.length then 2 else if okL r=false then 3 else 0
theorem zf3 (a:Option Addr) (n c:Nat) (r:List Int) (w:World) (h:zag w a r) (hn:r.length=n) (hm:n≤maxLen):
    Calls Tryz.prog 285 #[.slice a n c] w fun e w' =>e=.returned (.int .i64 (recE r))∧w' =w:=by
  have HA:=hide (zc8 a n c r w h hn hm);have HN:=hide hn;clear hn;unfold maxLen at hm
  by_cases c1:n<1
  {
  have hr:Hid (recE r=2):=by show _=_;unfold recE;rw [HN.out,if_pos (.inl c1)]
  have c1' : (n:Int)<1:=by omega
  go_enter Tryz.func285,Tryz.ntmps285;go_wp2;go_ret;exact⟨zao hr.out.symm,rfl⟩
  }
  have c1' :decide ((n:Int)<1)=false:=by simp;omega
  by_cases c2:4<n
  {
  have hr:Hid (recE r=2):=by show _=_;unfold recE;rw [HN.out,if_pos (.inr c2)]
  go_enter Tryz.func285,Tryz.ntmps285;go_wp2;go_ret;exact⟨zao hr.out.symm,rfl⟩
  }
  have c2' :decide (4< (n:Int))=false:=by simp;omega
  cases hok:okL r
  {
  have hr:Hid (recE r=3):=by show _=_;unfold recE;rw [HN.out,if_neg (by omega),if_pos hok]
  have HO:=hide hok;clear hok;go_enter Tryz.func285,Tryz.ntmps285;go_wp2_with fail;refine(zae HA).mono ?_;rintro e w' ⟨rfl,rfl⟩;rw [HO.out];go_wp2;go_ret;exact⟨zao hr.out.symm,rfl⟩
  }
  {
  have hr:Hid (recE r=0):=by show _=_;unfold recE;rw [HN.out,if_neg (by omega),if_neg (by simp [hok])]
  have HO:=hide hok;clear hok;go_enter Tryz.func285,Tryz.ntmps285;go_wp2_with fail;refine(zae HA).mono ?_;rintro e w' ⟨rfl,rfl⟩;rw [HO.out];go_wp2;go_ret;exact⟨zao hr.out.symm,rfl⟩
  }
end
end Go.Proofs.YthmekfcgdfckaaaGreatDoor
