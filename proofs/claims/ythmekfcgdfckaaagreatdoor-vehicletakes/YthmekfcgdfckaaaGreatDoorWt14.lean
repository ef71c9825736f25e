/- The contract of gate.twin: a gateway in memory of its own. A gateway's box and its own lists ('GBox'); what three blocks' turning leaves ('G3'); the contract of gate.forget. -/
import Derived.Test.YthmekfcgdfckaaaGreatDoorWt13
set_option maxRecDepth 1000000
set_option maxHeartbeats 0
namespace Go.Proofs.YthmekfcgdfckaaaGreatDoor
variable {w w' :World} {B:Nat} {bs:List Bool} {a:Option Addr} {vs:List Value} {t:TypeId}
section
open Go.RowKit
attribute [local go_sem ↓] Go.wp_at_zero Go.wp_at_succ
structure GOwn (w:World) (F:Nat) (m:GA) (g:Gt) (bv bd:Nat):Prop where
  ws:BW w m.a m.n m.c g.ws
  ks:BI w m.ak m.nk g.t.r.ks
  av:m.av=some ⟨bv,0,none⟩
  ad:m.ad=some ⟨bd,0,none⟩
  vo:OwnB w bv g.vo
  di:OwnB w bd g.di
  nv:g.vo.length=m.nv∧m.nv≤m.cv∧0<m.nv∧m.nv≤4
  nd:g.di.length=m.nd∧m.nd≤m.cd∧0<m.nd∧m.nd≤4
  fv:F≤bv
  fd:F≤bd
  ne:bv≠bd
  wv:Off bv m.a
  wd:Off bd m.a
  kv:Off bv m.ak
  kd:Off bd m.ak
  fa:zal F m.a
  fk:zal F m.ak
def TwinG (w:World) (g:Gt) (e:Ending) (w' :World):Prop:=(∃m bv bd,e=.returned (gtv g m)∧GOwn w' w.heap.size m g bv bd∧∀B,B<w.heap.size∨w'.heap.size≤B→Off B m.a∧Off B m.ak)∧Below w.heap.size w w'
theorem OwnB.turns {b:Nat} (h:OwnB w b bs) (hg:w.grownBy w' (some B)) (hne:b≠B):OwnB w' b bs:=by
  obtain ⟨cur,h1,h2,h3⟩:=h;exact⟨cur,zar h1 hg hne,h2,h3⟩
theorem OwnB.below {b:Nat} (h:OwnB w b bs) (hb:Below w.heap.size w w'):OwnB w' b bs:=by
  obtain ⟨cur,h1,h2,h3⟩:=h;exact⟨cur,zab h1 hb,h2,h3⟩
theorem OwnB.lt {b:Nat} (h:OwnB w b bs):b<w.heap.size:=by
  obtain ⟨cur,h1,_⟩:=h;exact zak h1
theorem ze8 {base n c:Nat} (h:w.ownsRow base t 1 (.slice a n c) n vs) (hB:w.heap.size≤B):Off B a:=by
  obtain ⟨_,⟨hv,_⟩| ⟨g,cap,cur,hv,hg,hh,_⟩⟩:=h
  { cases hv;exact zn3 _ }
  {
  cases hv;intro ad e;cases e;have:=zak hh
  show g≠B
  omega
  }
theorem zcd {base n c:Nat} (h:w.ownsRow base t 1 (.slice a n c) n vs) (hB:B<base):Off B a:=by
  obtain ⟨_,⟨hv,_⟩| ⟨g,cap,cur,hv,hg,hh,_⟩⟩:=h
  { cases hv;exact zn3 _ }
  {
  cases hv;intro ad e;cases e
  show g≠B
  omega
  }
theorem zl7 {base n c:Nat} {F:Nat} (h:w.ownsRow base t 1 (.slice a n c) n vs) (hF:F≤base):zal F a:=by
  obtain ⟨_,⟨hv,_⟩| ⟨g,cap,cur,hv,hg,hh,_⟩⟩:=h
  { cases hv;intro ad e;cases e }
  {
  cases hv;intro ad e;cases e
  show F≤g
  omega
  }
theorem zbr {n c:Nat} (h:Off B a): (Value.slice a n c).ownBlock=none∨(Value.slice a n c).ownBlock≠some B:=by
  cases a with
  |none=>exact .inl rfl
  |some ad=>exact .inr (fun e=>h ad rfl (by simpa [Value.ownBlock] using e))
theorem zdc (g:Gt) (m:GA) (w:World) (h:GIn w m g) (hn:m.n≤192) (hk:m.nk≤1000) (hv:0<m.nv∧m.nv≤4) (hd:0<m.nd∧m.nd≤4):
    Calls Tryz.prog 138 #[gtv g m] w (TwinG w g):=by
  have hw:Below w.heap.size w ((w.alloc (.cells (aG m g) 35)).alloc (.cells aY 35)):=bA2;have b0:Hid (((w.alloc (.cells (aG m g) 35)).alloc (.cells aY 35)).heap[w.heap.size]?=some (.cells (aG m g) 35 (0,0))):=zai (heap_alloc_last _ _) _;have b1:Hid (((w.alloc (.cells (aG m g) 35)).alloc (.cells aY 35)).heap[w.heap.size+1]?=some (.cells aY 35 (0,0))):=zau _ _ _;have Lw:=hide h.ws.len;have Lk:=hide h.ks.len;have Lv:=hide h.vo.len;have Ld:=hide h.di.len;have H1:=hide (fun W (hW:Below w.heap.size w W)=>ze1 m.a m.n m.c g.ws W (h.ws.below hW).bi (by omega));have H2:=hide (fun W (hW:Below w.heap.size w W)=>ze1 m.ak m.nk m.ck g.t.r.ks W (h.ks.below hW) (by omega));have H3:=hide (fun W (hW:Below w.heap.size w W)=>zkf m.av m.nv m.cv g.vo W (h.vo.below hW) (by omega));have H4:=hide (fun W (hW:Below w.heap.size w W)=>zkf m.ad m.nd m.cd g.di W (h.di.below hW) (by omega));have hmx:Hid (m.n≤maxLen∧m.nk≤maxLen):=⟨h.ws.max,h.ks.max⟩;unfold gtv;clear h;go_enter Tryz.func138,Tryz.ntmps138;have x0:=zaa b0.out 0 _ rfl;go_wp2_with fail;generalize ((w.alloc (.cells (aG m g) 35)).alloc (.cells aY 35))=W at *;have hs1:=hw.size;refine(zae H1 _ hw).mono ?_;rintro e w1 ⟨⟨a1,c1,rfl,ho1⟩,hb⟩;have hlo1:=zcd ho1 (B:=w.heap.size) (zak b0.out);have hlp1:=zcd ho1 (B:=w.heap.size+1) (zak b1.out);replace b0:=hide (zab b0.out hb);replace b1:=hide (zab b1.out hb);replace hw:=bT hw hb;clear hb x0 H1;have x0:=zaa b0.out 0 _ rfl;have f0:=zad b0.out 0;go_upto_region 2 with fail
  have hT:w1.grownBy (w1.setCell ⟨w.heap.size,0,none⟩ (.slice a1 g.ws.length c1)) (some w.heap.size):=zaw _ _ _ _;have b0n:Hid ((w1.setCell ⟨w.heap.size,0,none⟩ (.slice a1 g.ws.length c1)).heap[w.heap.size]?=some (.cells #[.slice a1 g.ws.length c1,.int .i64 g.fu,.bool g.up,.int .i64 g.t.r.v,.slice m.ak m.nk m.ck,.int .i64 g.t.r.t,.int .i64 g.t.ver,.slice m.av m.nv m.cv,.slice m.ad m.nd m.cd] 35 (0,0))):=heap_setCell_same _ _ _ _ _ _ b0.out;replace b1:=hide (zar b1.out hT (by omega));replace ho1:=ho1.kept hT (zbr hlo1);replace hw:=zam hw hT (Nat.le_refl _) hw.size;clear x0 f0 b0 hT;generalize w1.setCell ⟨w.heap.size,0,none⟩ (.slice a1 g.ws.length c1)=W1 at *;have b0:=b0n;clear b0n;have x0:=zaa b0.out 4 _ rfl;go_wp2_with fail;have hs2:=hw.size;refine(zae H2 _ hw).mono ?_;rintro e w2 ⟨⟨a2,c2,rfl,ho2⟩,hb⟩;have hlo2:=zcd ho2 (B:=w.heap.size) (zak b0.out);have hlp2:=zcd ho2 (B:=w.heap.size+1) (zak b1.out);replace ho1:=ho1.kept (zaj hb w.heap.size) (zbr hlo1);replace b0:=hide (zab b0.out hb);replace b1:=hide (zab b1.out hb);replace hw:=bT hw hb;clear hb x0 H2;have x0:=zaa b0.out 4 _ rfl;have f0:=zad b0.out 4;go_upto_region 3 with fail
  have hT:w2.grownBy (w2.setCell ⟨w.heap.size,4,none⟩ (.slice a2 g.t.r.ks.length c2)) (some w.heap.size):=zaw _ _ _ _;have b0n:Hid ((w2.setCell ⟨w.heap.size,4,none⟩ (.slice a2 g.t.r.ks.length c2)).heap[w.heap.size]?=some (.cells #[.slice a1 g.ws.length c1,.int .i64 g.fu,.bool g.up,.int .i64 g.t.r.v,.slice a2 g.t.r.ks.length c2,.int .i64 g.t.r.t,.int .i64 g.t.ver,.slice m.av m.nv m.cv,.slice m.ad m.nd m.cd] 35 (0,0))):=heap_setCell_same _ _ _ _ _ _ b0.out;replace b1:=hide (zar b1.out hT (by omega));replace ho1:=ho1.kept hT (zbr hlo1);replace ho2:=ho2.kept hT (zbr hlo2);replace hw:=zam hw hT (Nat.le_refl _) hw.size;clear x0 f0 b0 hT;generalize w2.setCell ⟨w.heap.size,4,none⟩ (.slice a2 g.t.r.ks.length c2)=W2 at *;have b0:=b0n;clear b0n;have x0:=zaa b0.out 7 _ rfl;go_wp2_with fail;refine(zae H3 _ hw).mono ?_;rintro e w3 ⟨⟨a3,c3,rfl,ho3⟩,hb⟩;have hlo3:=zcd ho3 (B:=w.heap.size) (zak b0.out);obtain ⟨q3,rfl,hqb3,hqo3,hqc3⟩:=zl1 ho3 rfl (by rw [Lv.out];omega);have hqX3:q3≠w.heap.size:=by have:=zak b0.out;omega
  have hqY3:q3≠w.heap.size+1:=by have:=zak b1.out;omega
  have hqF3:w.heap.size≤q3:=by have:=hw.size;omega
  have hw31:Off q3 a1:=ze8 ho1 hqb3;have hw32:Off q3 a2:=ze8 ho2 hqb3;replace ho1:=ho1.kept (zaj hb w.heap.size) (zbr hlo1);replace ho2:=ho2.kept (zaj hb w.heap.size) (zbr hlo2);replace b0:=hide (zab b0.out hb);replace b1:=hide (zab b1.out hb);replace hw:=bT hw hb;clear hb x0 H3;have x0:=zaa b0.out 7 _ rfl;have f0:=zad b0.out 7;go_upto_region 4 with fail
  have hT:w3.grownBy (w3.setCell ⟨w.heap.size,7,none⟩ (.slice (some ⟨q3,0,none⟩) g.vo.length c3)) (some w.heap.size):=zaw _ _ _ _;have b0n:Hid ((w3.setCell ⟨w.heap.size,7,none⟩ (.slice (some ⟨q3,0,none⟩) g.vo.length c3)).heap[w.heap.size]?=some (.cells #[.slice a1 g.ws.length c1,.int .i64 g.fu,.bool g.up,.int .i64 g.t.r.v,.slice a2 g.t.r.ks.length c2,.int .i64 g.t.r.t,.int .i64 g.t.ver,.slice (some ⟨q3,0,none⟩) g.vo.length c3,.slice m.ad m.nd m.cd] 35 (0,0))):=heap_setCell_same _ _ _ _ _ _ b0.out;replace b1:=hide (zar b1.out hT (by omega));replace ho1:=ho1.kept hT (zbr hlo1);replace ho2:=ho2.kept hT (zbr hlo2);replace hqo3:=hqo3.turns hT hqX3;replace hw:=zam hw hT (Nat.le_refl _) hw.size;clear x0 f0 b0 hT;generalize w3.setCell ⟨w.heap.size,7,none⟩ (.slice (some ⟨q3,0,none⟩) g.vo.length c3)=W3 at *;have b0:=b0n;clear b0n;have x0:=zaa b0.out 8 _ rfl;go_wp2_with fail;refine(zae H4 _ hw).mono ?_;rintro e w4 ⟨⟨a4,c4,rfl,ho4⟩,hb⟩;have hlo4:=zcd ho4 (B:=w.heap.size) (zak b0.out);obtain ⟨q4,rfl,hqb4,hqo4,hqc4⟩:=zl1 ho4 rfl (by rw [Ld.out];omega);have hqX4:q4≠w.heap.size:=by have:=zak b0.out;omega
  have hqY4:q4≠w.heap.size+1:=by have:=zak b1.out;omega
  have hqF4:w.heap.size≤q4:=by have:=hw.size;omega
  have hw41:Off q4 a1:=ze8 ho1 hqb4;have hw42:Off q4 a2:=ze8 ho2 hqb4;have hne:q3≠q4:=by have:=hqo3.lt;omega
  replace ho1:=ho1.kept (zaj hb w.heap.size) (zbr hlo1);replace ho2:=ho2.kept (zaj hb w.heap.size) (zbr hlo2);replace hqo3:=hqo3.below hb;replace b0:=hide (zab b0.out hb);replace b1:=hide (zab b1.out hb);replace hw:=bT hw hb;clear hb x0 H4;have x0:=zaa b0.out 8 _ rfl;have f0:=zad b0.out 8;go_upto_region 5 with fail
  have hT:w4.grownBy (w4.setCell ⟨w.heap.size,8,none⟩ (.slice (some ⟨q4,0,none⟩) g.di.length c4)) (some w.heap.size):=zaw _ _ _ _;have b0n:Hid ((w4.setCell ⟨w.heap.size,8,none⟩ (.slice (some ⟨q4,0,none⟩) g.di.length c4)).heap[w.heap.size]?=some (.cells #[.slice a1 g.ws.length c1,.int .i64 g.fu,.bool g.up,.int .i64 g.t.r.v,.slice a2 g.t.r.ks.length c2,.int .i64 g.t.r.t,.int .i64 g.t.ver,.slice (some ⟨q3,0,none⟩) g.vo.length c3,.slice (some ⟨q4,0,none⟩) g.di.length c4] 35 (0,0))):=heap_setCell_same _ _ _ _ _ _ b0.out;replace b1:=hide (zar b1.out hT (by omega));replace ho1:=ho1.kept hT (zbr hlo1);replace ho2:=ho2.kept hT (zbr hlo2);replace hqo3:=hqo3.turns hT hqX3;replace hqo4:=hqo4.turns hT hqX4;replace hw:=zam hw hT (Nat.le_refl _) hw.size;clear x0 f0 b0 hT;generalize w4.setCell ⟨w.heap.size,8,none⟩ (.slice (some ⟨q4,0,none⟩) g.di.length c4)=W4 at *;have b0:=b0n;clear b0n;have y0:=zgz ho1 rfl;have y4:=zgz ho2 rfl;obtain ⟨x0,x1,x2,x3,x4,x5,x6,x7,x8⟩:=cl9 b0.out;obtain ⟨z0,z1,z2,z3,z4,z5,z6,z7,z8⟩:=cl9 b1.out;obtain ⟨v0,v1,v2,v3,v4,v5,v6,v7,v8⟩:=fr9 b1.out;have O1:=hide ho1;have O2:=hide ho2;have Y0:=hide y0;have Y4:=hide y4;clear ho1 ho2 ho3 ho4 y0 y4;go_wp2_with fail;refine bodyPost_ret (v:=gtv g ⟨a1,g.ws.length,c1,a2,g.t.r.ks.length,c2,some ⟨q3,0,none⟩,g.vo.length,c3,some ⟨q4,0,none⟩,g.di.length,c4⟩) (by simp [results,Tryz.results138,go_sem,gtv,z0,z1,z2,z3,z4,z5,z6,z7,z8]) rfl ?_;have hT:=(zac (zac (zac (zac (zac (zac (zac (zac (zac (World.grownBy.refl W4 (some (w.heap.size+1))) 0 (.slice a1 g.ws.length c1)) 1 (.int .i64 g.fu)) 2 (.bool g.up)) 3 (.int .i64 g.t.r.v)) 4 (.slice a2 g.t.r.ks.length c2)) 5 (.int .i64 g.t.r.t)) 6 (.int .i64 g.t.ver)) 7 (.slice (some ⟨q3,0,none⟩) g.vo.length c3)) 8 (.slice (some ⟨q4,0,none⟩) g.di.length c4));refine⟨⟨_,q3,q4,rfl, ?_,fun B hB=>hB.elim (fun h=>⟨zcd O1.out (Nat.lt_of_lt_of_le h hs1),zcd O2.out (Nat.lt_of_lt_of_le h hs2)⟩) (fun h=>⟨ze8 O1.out (Nat.le_trans hT.size h),ze8 O2.out (Nat.le_trans hT.size h)⟩)⟩,zam hw hT (by omega) hw.size⟩;exact⟨⟨zax Y0.out.1 hT hlp1,rfl,Y0.out.2.2,by rw [Lw.out];exact hmx.out.1⟩,⟨zax Y4.out.1 hT hlp2,rfl,by rw [Lk.out];exact hmx.out.2⟩,rfl,rfl,hqo3.turns hT hqY3,hqo4.turns hT hqY4,⟨rfl,hqc3,by rw [Lv.out];exact hv.1,by rw [Lv.out];exact hv.2⟩,⟨rfl,hqc4,by rw [Ld.out];exact hd.1,by rw [Ld.out];exact hd.2⟩,hqF3,hqF4,hne,hw31,hw41,hw32,hw42,zl7 O1.out hs1,zl7 O2.out hs2⟩
end
section
open Go.RowKit
attribute [local go_sem ↓] Go.wp_at_zero Go.wp_at_succ
structure G3 (w w' :World) (B b1 b2:Nat):Prop where
  os:w'.os=w.os
  tape:w'.tape=w.tape
  output:w'.output=w.output
  size:w.heap.size≤w'.heap.size
  block: ∀k,k<w.heap.size→k≠B→k≠b1→k≠b2→w'.heap[k]?=w.heap[k]?
theorem G3.refl (w:World) (B b1 b2:Nat):G3 w w B b1 b2:=⟨rfl,rfl,rfl,Nat.le_refl _,fun _ _ _ _ _=>rfl⟩
theorem G3.trans {w1 w2:World} {b1 b2:Nat} (h:G3 w w1 B b1 b2) (h2:G3 w1 w2 B b1 b2):G3 w w2 B b1 b2:=
  ⟨h2.os.trans h.os,h2.tape.trans h.tape,h2.output.trans h.output,Nat.le_trans h.size h2.size,fun k hk n0 n1 n2=>(h2.block k (Nat.lt_of_lt_of_le hk h.size) n0 n1 n2).trans (h.block k hk n0 n1 n2)⟩
theorem g3_of {b1 b2 b:Nat} (h:w.grownBy w' (some b)) (hb:b=B∨b=b1∨b=b2):G3 w w' B b1 b2:=
  ⟨h.os,h.tape,h.output,h.size,fun k hk n0 n1 n2=>h.block k hk (fun e=>by cases e;omega)⟩
theorem zcw {b1 b2:Nat} (h:Below w.heap.size w w'):G3 w w' B b1 b2:=g3_of (zaj h B) (.inl rfl)
theorem G3.bel {a:World} {b1 b2 F:Nat} (h:G3 w w' B b1 b2) (hb:Below F a w) (h0:F≤B) (h1:F≤b1) (h2:F≤b2) (hs:F≤w.heap.size):Below F a w' :=
  ⟨h.os.trans hb.os,h.tape.trans hb.tape,h.output.trans hb.output,Nat.le_trans hb.size h.size,fun k hk=>(h.block k (Nat.lt_of_lt_of_le hk hs) (by omega) (by omega) (by omega)).trans (hb.block k hk)⟩
theorem G3.blk {b1 b2 k:Nat} {o:Obj} (h:G3 w w' B b1 b2) (hk:w.heap[k]?=some o) (h0:k≠B) (h1:k≠b1) (h2:k≠b2):w'.heap[k]?=some o:=by rw [h.block k (zak hk) h0 h1 h2];exact hk
structure GBox (w:World) (F B:Nat) (m:GA) (g:Gt) (bv bd:Nat):Prop where
  box:w.heap[B]?=some (gtO g m)
  own:GOwn w F m g bv bd
  fB:F≤B
  nv:B≠bv
  nd:B≠bd
  oa:Off B m.a
  ok:Off B m.ak
theorem zkh (l:List Bool): (zbj l).length=l.length:=by unfold zbj;simp
theorem zgq (F B:Nat) (m:GA) (g:Gt) (bv bd:Nat) (w:World) (h:GBox w F B m g bv bd):
    Calls Tryz.prog 242 #[.pointer (some ⟨B,0,none⟩)] w fun e w' =>e=.returned (.tuple #[])∧GBox w' F B m (forgG g) bv bd∧G3 w w' B bv bd:=by
  have b0:=hide h.box;unfold gtO at b0;have hav:=h.own.av;have had:=h.own.ad;obtain ⟨w1,hc1,ho1,hg1⟩:=zma bv m.nv m.cv g.vo w h.own.vo h.own.nv.1 h.own.nv.2.2.1;have hd1:=h.own.di.turns hg1 (Ne.symm h.own.ne);obtain ⟨w2,hc2,ho2,hg2⟩:=zma bd m.nd m.cd g.di w1 hd1 h.own.nd.1 h.own.nd.2.2.1;have b1:=hide (zar b0.out hg1 h.nv);have x7:=zaa b0.out 7 _ rfl;have x8:=zaa b1.out 8 _ rfl;rw [hav] at x7;rw [had] at x8;have HP:=hide h;have HO:=hide (show OwnB w2 bv (zbj g.vo)∧OwnB w2 bd (zbj g.di) from⟨ho1.turns hg2 h.own.ne,ho2⟩);clear h hav had ho1 ho2 hd1;go_enter Tryz.func242,Tryz.ntmps242;go_wp2_with fail
  go_end0
  have hG:=(g3_of hg1 (.inr (.inl rfl))).trans (g3_of (B:=B) hg2 (.inr (.inr rfl)));have hp:=HP.out;have hw2: ∀{a:Option Addr} {xs:List Int},zag w a xs→Off bv a→Off bd a→zag w2 a xs:=fun h h1 h2=>zax (zax h hg1 h1) hg2 h2
  refine⟨rfl,⟨?_,⟨⟨hw2 hp.own.ws.at_ hp.own.wv hp.own.wd,hp.own.ws.len,hp.own.ws.cap,hp.own.ws.max⟩,⟨hw2 hp.own.ks.at_ hp.own.kv hp.own.kd,hp.own.ks.len,hp.own.ks.max⟩,hp.own.av,hp.own.ad,HO.out.1,HO.out.2,⟨(zkh _).trans hp.own.nv.1,hp.own.nv.2⟩,⟨(zkh _).trans hp.own.nd.1,hp.own.nd.2⟩,hp.own.fv,hp.own.fd,hp.own.ne,hp.own.wv,hp.own.wd,hp.own.kv,hp.own.kd,hp.own.fa,hp.own.fk⟩,hp.fB,hp.nv,hp.nd,hp.oa,hp.ok⟩,hG⟩;exact zar b1.out hg2 hp.nd
end
end Go.Proofs.YthmekfcgdfckaaaGreatDoor
