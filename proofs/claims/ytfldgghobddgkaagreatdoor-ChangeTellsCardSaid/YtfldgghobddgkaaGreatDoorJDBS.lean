/-
  tallyref2.Change whole.
-/
import Derived.Test.YtfldgghobddgkaaGreatDoorJDBR
namespace Go.Proofs.YtfldgghobddgkaaGreatDoor
open Go Go.ChangeShapes Go.WideShapes Go.ChangeAt Go.RowKit
set_option maxRecDepth 1000000
set_option maxHeartbeats 64000000
theorem wp_end {P:Program} {c:Code} {Rt:Act→World→Prop} {a:Act} {w:World} (h:c.wp P (Exit.then (fun _ _=>False) (QR Rt)) a w):c.wp P (QR Rt) a w :=
 wp_mono h fun e a w h=>by cases e <;> first | exact h | exact h.elim
theorem box_keep {w:World} {r b o:Nat} {u v:Value} (h:w.cell? ⟨b,o,none⟩=some u) (hb:b≠r):(w.setCell ⟨r,0,none⟩ v).cell? ⟨b,o,none⟩=some u :=
 (World.cell?_of_block (w:=w) (a:=⟨b,o,none⟩) (setCell_off _ _ _ _ _ hb)).trans h
section
variable {w:World} {r:Nat} (hr:w.heap[r]?=some (.cells #[.slice none 0 0] 24 (0,0)))
include hr
theorem box_not {b o:Nat} {u:Value} (h:w.cell? ⟨b,o,none⟩=some u) (hu:∀ A n c,u≠.slice A n c):b≠r:=fun e=>by
 subst e
 rw [Lib.cell_of_heap hr o] at h
 cases o with
 | zero=>exact hu _ _ _ (Option.some.inj h).symm
 | succ o=>cases h
theorem ct_pl {v:Value} {A:Option Addr} {c:Nat} {L:List Int} (h:PlAt w A c L):PlAt (w.setCell ⟨r,0,none⟩ v) A c L:=by
 obtain ⟨h1,h2 | ⟨b,o,h2,h3,h4⟩⟩:=h
 ·exact ⟨h1,Or.inl h2⟩
 ·exact ⟨h1,Or.inr ⟨b,o,h2,by simpa using h3,fun j hj=>box_keep (h4 j hj) (box_not hr (h4 j hj) (by intro _ _ _ e;cases e))⟩⟩
theorem ct_ensk {v:Value} {A:Option Addr} {c:Nat} {xs:List EnL} (h:EnsV w A c xs):EnsV (w.setCell ⟨r,0,none⟩ v) A c xs:=by
 obtain ⟨h1,h2,h3 | ⟨b,o,h3,h4,h5,h6⟩⟩:=h
 ·exact ⟨h1,h2,Or.inl h3⟩
 ·by_cases hx:xs=[]
  ·exact ⟨h1,h2,Or.inl hx⟩
  have hlen:0<xs.length:=List.length_pos_iff.2 hx
  have hb:b≠r:=box_not hr (h5 _ _ (cellsE_at xs 0 hlen).2) (by intro _ _ _ e;cases e)
  exact ⟨h1,h2,Or.inr ⟨b,o,h3,by simpa using h4,fun j u hj=>box_keep (h5 j u hj) hb,fun x hx=>ct_pl hr (h6 x hx)⟩⟩
theorem ct_dimsk {v:Value} {A0:Option Addr} {cap n:Nat} {D:Nat→Dm} {A:Nat→Option Addr} {C:Nat→Nat} (h:DimsV w A0 cap n D A C):DimsV (w.setCell ⟨r,0,none⟩ v) A0 cap n D A C:=by
 obtain ⟨h1,h2 | ⟨b,o,h2,h3,h4⟩⟩:=h
 ·exact ⟨h1,Or.inl h2⟩
 ·refine ⟨h1,Or.inr ⟨b,o,h2,by simpa using h3,fun i hi=>?_⟩⟩
  obtain ⟨d0,d1,d2,d3,dM⟩:=h4 i hi
  have hb:b≠r:=box_not hr d0 (by intro _ _ _ e;cases e)
  refine ⟨box_keep d0 hb,box_keep d1 hb,box_keep d2 hb,d3,?_⟩
  rcases dM with hm | ⟨bm,om,hA,hl,hM⟩
  ·exact Or.inl hm
  ·refine Or.inr ⟨bm,om,hA,by simpa using hl,fun j hj=>?_⟩
   obtain ⟨m0,m1,m2,m3⟩:=hM j hj
   have hbm:bm≠r:=box_not hr m0 (by intro _ _ _ e;cases e)
   exact ⟨box_keep m0 hbm,box_keep m1 hbm,box_keep m2 hbm,box_keep m3 hbm⟩
end
theorem ct_start (a0 a1 a2:Value):ctF (#[a0,a1,a2] ++ Array.replicate 420 undef) (fun i=>[a0,a1,a2].getD i undef)∧(fun i=>[a0,a1,a2].getD i undef:Nat→Value) 0=a0∧(fun i=>[a0,a1,a2].getD i undef:Nat→Value) 1=a1∧(fun i=>[a0,a1,a2].getD i undef:Nat→Value) 2=a2 :=
 ⟨⟨by simp,by rw [Array.toList_append,Array.toList_replicate];rfl⟩,rfl,rfl,rfl⟩
theorem ctFin (T:Array Value) (s:Nat→Value) (w:World) (r n c:Nat) (A:Option Addr) (v7 v8:Value) (hF:ctF T s) (h6:s 6=.pointer (some ⟨r,0,none⟩)) (h7:s 7=v7) (h8:s 8=v8) (hr:w.heap[r]?=some (.cells #[.slice A n c] 24 (0,0))) (R:Ending→World→Prop) (hR:R (.returned (.tuple #[.agg #[.slice A n c],v7,v8])) w):bodyPost Tryz.prog Tryz.f4 R .ret ⟨T,[]⟩ w:=by
 obtain ⟨xF,rfl⟩:=ct_open hF
 have p0:w.cell? ⟨r,0,none⟩=some (.slice A n c):=(Lib.cell_of_heap hr 0).trans rfl
 refine bodyPost_ret (v:=.tuple #[.agg #[.slice A n c],v7,v8]) (by simp [results,Tryz.results4,go_sem,p0,ctL,h6,h7,h8]) rfl hR
theorem dim_dis {d:Dm} (h:(dimErr d).2=0):∀ a b,a<d.n→b<d.n→same (d.mem a).name (d.mem b).name=true→a=b:=by
 have key:∀ a b,a<b→b<d.n→same (d.mem a).name (d.mem b).name=false:=fun a b hab hb=>by
  have h1:=memErr_noclash ((dimErr_right h).2.2.2 b hb)
  rcases findFrom_cases (fun j=>same (d.mem j).name (d.mem b).name) b 0 with ⟨-,h2⟩ | ⟨k,e,-⟩
  ·exact h2 a (Nat.zero_le _) (by omega)
  ·rw [e] at h1;omega
 intro a b ha hb hs
 rcases Nat.lt_trichotomy a b with h1 | h1 | h1
 ·rw [key a b h1 hb] at hs;cases hs
 ·exact h1
 ·rw [same_sym,key b a h1 ha] at hs;cases hs
noncomputable def dwE (d:Dm) (l:List En) (k:Nat) (c:Chg):Int :=
 if c.what=1 then addE d l k (newM c)
 else if c.what=2 then (if remE d c.mb.toNat≠0 then remE d c.mb.toNat else (rErr (remD d c.mb.toNat)).2)
 else if c.what=3 then rnE d c.mb.toNat c.name
 else if c.what=4 then moveE d l k c.mb.toNat c.tgt
 else resE c.sign
noncomputable def dcE (D:Nat→Dm) (n:Nat) (l:List En) (c:Chg):Int :=
 if cuErr D n l≠0 then cuErr D n l
 else if c.what<1∨5<c.what∨c.dim<0∨(n:Int)≤c.dim then 1
 else if c.what≠1∧(c.mb<0∨((D c.dim.toNat).n:Int)≤c.mb) then 1
 else if dwE (D c.dim.toNat) l c.dim.toNat c≠0 then dwE (D c.dim.toNat) l c.dim.toNat c
 else (ruErr (chD D c) n).2.2
def DcRes (D:Nat→Dm) (n:Nat) (l:List En) (c:Chg) (w:World) (e:Ending) (w':World):Prop :=
 ∃ A' cap' N' DA CA Ae ce ys,e=.returned (.tuple #[.agg #[.slice A' N' cap'],.slice Ae (ys:List EnL).length ce,.int .i64 (dcE D n l c)])∧(dcE D n l c=0→N'=n∧lE ys=cgL l c.dim.toNat c)∧(dcE D n l c≠0→N'=0∧ys=[])∧DimsV w' A' cap' N' (chD D c) DA CA∧EnsV w' Ae ce ys∧Below w.heap.size w w'
theorem dc_bad {D:Nat→Dm} {n:Nat} {l:List En} {c:Chg} {E:Int} (h:dcE D n l c=E) (h0:E≠0) {w w':World} (hb:Below w.heap.size w w'):DcRes D n l c w (.returned (.tuple #[.agg #[.slice none 0 0],.slice none 0 0,.int .i64 E])) w' :=
 ⟨none,0,0,fun _=>none,fun _=>0,none,0,[],by rw [h];rfl,fun e=>absurd (h.symm.trans e) h0,fun _=>⟨rfl,rfl⟩,⟨Nat.le_refl _,Or.inl rfl⟩,EnsV.nil _ _ _ (by decide),hb⟩
theorem rchange_any (A0:Option Addr) (cap n:Nat) (D:Nat→Dm) (A:Nat→Option Addr) (C:Nat→Nat) (AE:Option Addr) (ce:Nat) (xs:List EnL) (c:Chg) (w0:World) (hM:DimsV w0 A0 cap n D A C) (hE:EnsV w0 AE ce xs) :
  Calls Tryz.prog 4 #[.agg #[.slice A0 n cap],.slice AE xs.length ce,chgV c] w0 fun e w'=>DcRes D n (lE xs) c w0 e w':=by
 refine calls_of_wp (c:=ctC []) Tryz.func4 rfl ?_
 rw [Tryz.ntmps4]
 simp only [List.size_toArray,List.length_cons,List.length_nil,Nat.reduceAdd,Nat.reduceSub]
 obtain ⟨wh,dm,mb,nm,tg,sg⟩:=c
 obtain ⟨c,hc⟩:∃ c:Chg,c=⟨wh,dm,mb,nm,tg,sg⟩:=⟨_,rfl⟩
 rw [←hc]
 rw [show chgV c=.agg #[.int .i64 wh,.int .i64 dm,.int .i64 mb,.string nm,.int .i64 tg,.int .i64 sg] by rw [hc];rfl]
 obtain ⟨hF,h0,h1,h2⟩:=ct_start (.agg #[.slice A0 n cap]) (.slice AE xs.length ce) (.agg #[.int .i64 wh,.int .i64 dm,.int .i64 mb,.string nm,.int .i64 tg,.int .i64 sg])
 generalize (#[.agg #[.slice A0 n cap],.slice AE xs.length ce,.agg #[.int .i64 wh,.int .i64 dm,.int .i64 mb,.string nm,.int .i64 tg,.int .i64 sg]] ++ Array.replicate 420 undef:Array Value)=T at hF ⊢
 generalize (fun i=>[.agg #[.slice A0 n cap],.slice AE xs.length ce,.agg #[.int .i64 wh,.int .i64 dm,.int .i64 mb,.string nm,.int .i64 tg,.int .i64 sg]].getD i undef:Nat→Value)=s at hF h0 h1 h2
 obtain ⟨Rt,hRt⟩:∃ Rt:Act→World→Prop,Rt=fun a w'=>bodyPost Tryz.prog Tryz.f4 (fun e w'=>DcRes D n (lE xs) c w0 e w') .ret a w':=⟨_,rfl⟩
 refine wp_mono (Q:=QR Rt) ?_ (fun e a w' h=>by cases e <;> first | exact h.elim | (rw [hRt] at h;exact h))
 have fin:∀ T' s' w' n' c' A' v7 v8,ctF T' s'→s' 6=.pointer (some ⟨w0.heap.size+2,0,none⟩)→s' 7=v7→s' 8=v8→w'.heap[w0.heap.size+2]?=some (.cells #[.slice A' n' c'] 24 (0,0))→DcRes D n (lE xs) c w0 (.returned (.tuple #[.agg #[.slice A' n' c'],v7,v8])) w'→Rt ⟨T',[]⟩ w':=by
  intro T' s' w' n' c' A' v7 v8 hF' h6 h7 h8 hr hR
  rw [hRt]
  exact ctFin T' s' w' _ n' c' A' v7 v8 hF' h6 h7 h8 hr _ hR
 clear hRt
 have bad:∀ E,dcE D n (lE xs) c=E→E≠0→∀ a w',CtRet w0 E a w'→Rt a w':=fun E h hne a w' ⟨T',s',ha,hF',h6,h7,h8,hr,hb⟩=>by
  rw [ha]
  exact fin T' s' w' 0 0 none _ _ hF' h6 h7 h8 hr (dc_bad h hne hb)
 have cw:c.what=wh:=by rw [hc]
 have cd:c.dim=dm:=by rw [hc]
 have cm:c.mb=mb:=by rw [hc]
 have cn:c.name=nm:=by rw [hc]
 have ct:c.tgt=tg:=by rw [hc]
 have cs:c.sign=sg:=by rw [hc]
 rw [show (ctC [])=(.seq (ctC [0]) (.seq (ctC [1,0]) (.seq (.seq (ctC [1,1,0,0]) (.cond (.tmp 55) (ctC [1,1,0,1,2]) .skip)) (.seq (.seq (ctC [1,1,1,0,0]) (.cond (.tmp 57) (ctC [1,1,1,0,1,2]) .skip)) (.seq (ctC [1,1,1,1,0]) (.seq (ctC [1,1,1,1,1,0]) (.seq (.seq (ctC [1,1,1,1,1,1,0,0]) (.cond (.tmp 101) (ctC [1,1,1,1,1,1,0,1,2]) .skip)) (.seq (ctC [1,1,1,1,1,1,1,0]) (.seq (ctC [1,1,1,1,1,1,1,1,0]) (.seq (.seq (ctC [1,1,1,1,1,1,1,1,1,0,0]) (.block 0 (ctC [1,1,1,1,1,1,1,1,1,0,1,3]))) (ctC [1,1,1,1,1,1,1,1,1,1]))))))))))) from rfl]
 refine wp_seq (ctL0 T s A0 n cap wh dm mb tg sg nm w0 hF h0 h2 _ _ fun T hF=>?_)
 have hb1:=ct_new w0 A0 n cap wh dm mb tg sg nm
 have hB1:Below w0.heap.size w0 (((w0.alloc (.cells #[.slice A0 n cap] 24)).alloc (.cells #[.int .i64 wh,.int .i64 dm,.int .i64 mb,.string nm,.int .i64 tg,.int .i64 sg] 27)).alloc (.cells #[.slice none 0 0] 24)):=by go_grown
 generalize ((w0.alloc (.cells #[.slice A0 n cap] 24)).alloc (.cells #[.int .i64 wh,.int .i64 dm,.int .i64 mb,.string nm,.int .i64 tg,.int .i64 sg] 27)).alloc (.cells #[.slice none 0 0] 24)=w1 at hb1 hB1 ⊢
 generalize hs1:upG (upG (upG (upG (upG s 3 _) 5 _) 6 _) 7 _) 8 _=s1 at hF
 have e1:s1 1=.slice AE xs.length ce:=by rw [←hs1];simp [upG,h1]
 have e3:s1 3=.pointer (some ⟨w0.heap.size,0,none⟩):=by rw [←hs1];simp [upG]
 have e5:s1 5=.pointer (some ⟨w0.heap.size+1,0,none⟩):=by rw [←hs1];simp [upG]
 have e6:s1 6=.pointer (some ⟨w0.heap.size+2,0,none⟩):=by rw [←hs1];simp [upG]
 clear hs1
 refine wp_seq (ctL1 T s1 w0.heap.size A0 AE n cap xs.length ce (fun v w'=>v=.int .i64 (cuErr D n (lE xs))∧Below w1.heap.size w1 w') w1 hF e1 e3 ((Lib.cell_of_heap hb1.o 0).trans rfl) ((scube_any A0 cap n D A C AE ce xs w1 (hM.later hB1) (hE.later hB1)).mono fun e w' ⟨he,hb⟩=>⟨_,he,rfl,hb⟩) _ _ fun T v w2 hF hX=>?_)
 obtain ⟨rfl,hb12⟩:=hX
 have hb2:=hb1.later hb12
 have hB2:=onB hB1 hb12
 have rest:∀ T E,ctF T (upG s1 9 (.int .i64 E))→(E≠0→dcE D n (lE xs) c=E)→(E=0→cuErr D n (lE xs)=0∧¬ (wh<1∨5<wh∨dm<0∨(n:Int)≤dm))→Code.wp Tryz.prog (.seq (.seq (ctC [1,1,1,0,0]) (.cond (.tmp 57) (ctC [1,1,1,0,1,2]) .skip)) (.seq (ctC [1,1,1,1,0]) (.seq (ctC [1,1,1,1,1,0]) (.seq (.seq (ctC [1,1,1,1,1,1,0,0]) (.cond (.tmp 101) (ctC [1,1,1,1,1,1,0,1,2]) .skip)) (.seq (ctC [1,1,1,1,1,1,1,0]) (.seq (ctC [1,1,1,1,1,1,1,1,0]) (.seq (.seq (ctC [1,1,1,1,1,1,1,1,1,0,0]) (.block 0 (ctC [1,1,1,1,1,1,1,1,1,0,1,3]))) (ctC [1,1,1,1,1,1,1,1,1,1])))))))) (QR Rt) ⟨T,[]⟩ w2:=fun T E hF hne hz=>by
  refine wp_seq (wp_seq (ctL4 T _ E w2 hF (upG_at _ _ _) _ _ fun T hF he=>?_))
  by_cases hE0:E≠0
  ·rw [decide_eq_true hE0] at he
   refine wp_cond_true he (wp_qr (ctR5 T _ _ _ E w2 hF (by rw [upG_off _ _ (by decide)];exact e6) (upG_at _ _ _) hb2.r _ _ fun T hF=>bad E (hne hE0) hE0 _ _ ⟨T,_,rfl,hF,?_,?_,upG_at _ _ _,by simp [World.setCell,Array.getElem?_modify,hb2.r],hB2.setCell (by show w0.heap.size≤w0.heap.size+2;omega) _⟩) fun _ _ h=>h)
   ·rw [upG_off _ _ (by decide),upG_off _ _ (by decide),upG_off _ _ (by decide)];exact e6
   ·rw [upG_off _ _ (by decide),upG_at]
  rw [decide_eq_false hE0] at he
  have hE00:E=0:=by simpa using hE0
  obtain ⟨hcu0,hrng⟩:=hz hE00
  rw [hE00] at hF
  refine wp_cond_false he (wp_skip ?_)
  obtain ⟨k,hk⟩:∃ k:Nat,dm=k:=⟨dm.toNat,by omega⟩
  have hkn:k<n:=by omega
  obtain ⟨hrp,hens⟩:=cu_parts hcu0
  obtain ⟨hall,hre⟩:=ru_parts hrp
  obtain ⟨hn1,hn4,-,hd12⟩:=allErr_some hall
  have hdr:=(allErr_right hall).2 k hkn
  have hkt:c.dim.toNat=k:=by rw [cd,hk,Int.toNat_natCast]
  have hDC:dcE D n (lE xs) c=if wh≠1∧(mb<0∨((D k).n:Int)≤mb) then 1 else if dwE (D k) (lE xs) k c≠0 then dwE (D k) (lE xs) k c else (ruErr (putD D k (cgD (D k) c)) n).2.2:=by
   unfold dcE chD
   rw [if_neg (by simpa using hcu0),cw,cd,if_neg hrng,cm,←cd,hkt]
  subst hk
  obtain ⟨hcap0,hn0 | ⟨b,o,rfl,hDA⟩⟩:=hM.later hB2
  ·omega
  obtain ⟨x0,x1,x2,xM⟩:=hDA.2 k hkn
  obtain ⟨hmc,hm0 | ⟨bm,om,hAe,hMA⟩⟩:=xM
  ·have:=(dimErr_right hdr).2.1;omega
  rw [hAe] at x2
  refine wp_seq (ctL6 T _ w0.heap.size n cap b o k (D k).name (D k).solve w2 hF (by rw [upG_off _ _ (by decide)];exact e3) (by rw [upG_off _ _ (by decide)];exact e5) ((Lib.cell_of_heap hb2.o 0).trans rfl) hb2.xd hkn x0 x1 _ _ fun T w3 hF hbx hb23=>?_)
  obtain ⟨q,hq⟩:∃ q,w2.heap.size=q:=⟨_,rfl⟩
  rw [hq] at hF hbx
  have hb3:=hb2.later hb23
  have hB3:=onB hB2 hb23
  have hDA3:=hDA.later hb23
  obtain ⟨y0,y1,y2,-⟩:=hDA3.2 k hkn
  rw [hAe] at y2
  have hql:q<w3.heap.size:=(Array.getElem?_eq_some_iff.1 hbx).1
  have hlow:w0.heap.size+2<q:=by have:=hb2.lt;omega
  refine wp_seq (ctL7 T _ w0.heap.size q (q+1) n cap b o k (D k).n (C k) bm om (D k).name (D k).solve (D k).mem w3 hF (by rw [upG_off _ _ (by decide),upG_off _ _ (by decide)];exact e3) (by rw [upG_off _ _ (by decide),upG_off _ _ (by decide)];exact e5) (upG_at _ _ _) ((Lib.cell_of_heap hb3.o 0).trans rfl) hb3.xd hkn y2 hbx (hMA.later hb23) (hd12 k hkn).1 (hd12 k hkn).2 hql _ _ fun T w4 A4 C4 hF hD4 hK4=>?_)
  have hb4:CtB w4 w0.heap.size (some ⟨b,o,none⟩) n cap wh (k:Nat) mb tg sg nm:=hb3.keep (hK4.block _ (by omega) (by omega)) (hK4.block _ (by omega) (by omega)) (hK4.block _ (by omega) (by omega))
  have hB4:Below w0.heap.size w0 w4:=⟨hK4.os.trans hB3.os,hK4.tape.trans hB3.tape,hK4.output.trans hB3.output,Nat.le_trans hB3.size hK4.size,fun i hi=>(hK4.block i (Nat.lt_of_lt_of_le hi hB3.size) (by omega)).trans (hB3.block i hi)⟩
  generalize hs4:upG (upG s1 9 _) 10 _=s4 at hF
  have f1:s4 1=.slice AE xs.length ce:=by rw [←hs4,upG_off _ _ (by decide),upG_off _ _ (by decide)];exact e1
  have f3:s4 3=.pointer (some ⟨w0.heap.size,0,none⟩):=by rw [←hs4,upG_off _ _ (by decide),upG_off _ _ (by decide)];exact e3
  have f5:s4 5=.pointer (some ⟨w0.heap.size+1,0,none⟩):=by rw [←hs4,upG_off _ _ (by decide),upG_off _ _ (by decide)];exact e5
  have f6:s4 6=.pointer (some ⟨w0.heap.size+2,0,none⟩):=by rw [←hs4,upG_off _ _ (by decide),upG_off _ _ (by decide)];exact e6
  have f9:s4 9=.int .i64 0:=by rw [←hs4,upG_off _ _ (by decide),upG_at]
  have f10:s4 10=.pointer (some ⟨q,0,none⟩):=by rw [←hs4,upG_at]
  clear hs4 hbx hK4 y0 y1 y2 x0 x1 x2 hb3 hB3 hDA3
  refine wp_seq (wp_seq (ctL8 T s4 w0.heap.size q (D k).n C4 A4 wh mb w4 hF f5 f10 hb4.xw hb4.xm hD4.c2 _ _ fun T hF he=>?_))
  by_cases hmr:wh≠1∧(mb<0∨((D k).n:Int)≤mb)
  ·rw [decide_eq_true hmr] at he
   refine wp_cond_true he (wp_qr (ctR9 T s4 _ _ w4 hF f6 hb4.r _ _ fun T hF=>bad 1 (by rw [hDC,if_pos hmr]) (by decide) _ _ ⟨T,_,rfl,hF,?_,?_,upG_at _ _ _,by simp [World.setCell,Array.getElem?_modify,hb4.r],hB4.setCell (by show w0.heap.size≤w0.heap.size+2;omega) _⟩) fun _ _ h=>h)
   ·rw [upG_off _ _ (by decide),upG_off _ _ (by decide)];exact f6
   ·rw [upG_off _ _ (by decide),upG_at]
  rw [decide_eq_false hmr] at he
  rw [if_neg hmr] at hDC
  refine wp_cond_false he (wp_skip (wp_seq (ctL10 T s4 _ w4 hF f1 _ _ fun T hF=>wp_seq (ctL11 T _ w0.heap.size mb w4 hF (by rw [upG_off _ _ (by decide)];exact f5) hb4.xm _ _ fun T hF=>?_))))
  have hH:CtH w0 w4 (upG (upG s4 11 (.slice AE xs.length ce)) 12 (.int .i64 mb)) q (some ⟨b,o,none⟩) n cap AE xs.length ce wh (k:Nat) mb tg sg nm A4 C4 ⟨(D k).name,(D k).solve,(D k).n,(D k).mem⟩:=by
   refine ⟨hb4,hD4,hlow,hB4,?_,?_,?_,?_,?_,?_,?_,upG_at _ _ _⟩
   ·rw [upG_off _ _ (by decide),upG_off _ _ (by decide)];exact f1
   ·rw [upG_off _ _ (by decide),upG_off _ _ (by decide)];exact f3
   ·rw [upG_off _ _ (by decide),upG_off _ _ (by decide)];exact f5
   ·rw [upG_off _ _ (by decide),upG_off _ _ (by decide)];exact f6
   ·rw [upG_off _ _ (by decide),upG_off _ _ (by decide)];exact f9
   ·rw [upG_off _ _ (by decide),upG_off _ _ (by decide)];exact f10
   ·rw [upG_off _ _ (by decide),upG_at]
  have hH:CtH w0 w4 (upG (upG s4 11 (.slice AE xs.length ce)) 12 (.int .i64 mb)) q (some ⟨b,o,none⟩) n cap AE xs.length ce wh (k:Nat) mb tg sg nm A4 C4 (D k):=hH
  generalize upG (upG s4 11 (.slice AE xs.length ce)) 12 (.int .i64 mb)=s5 at hF hH
  have end':∀ T' s' w' d' l' E,ctF T' s'→CtO w0 w' s5 s' q (some ⟨b,o,none⟩) n cap wh (k:Nat) mb tg sg nm E d' l'→dwE (D k) (lE xs) k c=E→cgD (D k) c=d'→cgL (lE xs) k c=l'→Code.wp Tryz.prog (ctC [1,1,1,1,1,1,1,1,1,1]) (QR Rt) ⟨T',[]⟩ w':=fun T s6 w6 d' l' E hF hO hwe hgd hgl=>by
   rw [show (ctC [1,1,1,1,1,1,1,1,1,1])=(.seq (.seq (ctC [1,1,1,1,1,1,1,1,1,1,0,0]) (.cond (.tmp 407) (ctC [1,1,1,1,1,1,1,1,1,1,0,1,2]) .skip)) (.seq (ctC [1,1,1,1,1,1,1,1,1,1,1,0]) (.seq (ctC [1,1,1,1,1,1,1,1,1,1,1,1,0]) (.seq (.seq (ctC [1,1,1,1,1,1,1,1,1,1,1,1,1,0,0]) (.cond (.tmp 418) (ctC [1,1,1,1,1,1,1,1,1,1,1,1,1,0,1,2]) .skip)) (ctC [1,1,1,1,1,1,1,1,1,1,1,1,1,1]))))) from rfl]
   have g6:=(hO.ag 6 (by decide)).trans hH.s6
   refine wp_seq (wp_seq (ctL75 T s6 E w6 hF hO.s9 _ _ fun T hF he=>?_))
   rw [hwe,hgd] at hDC
   by_cases hE1:E≠0
   ·rw [decide_eq_true hE1] at he
    refine wp_cond_true he (wp_qr (ctR76 T s6 _ _ E w6 hF g6 hO.s9 hO.b.r _ _ fun T hF=>bad E (by rw [hDC,if_pos hE1]) hE1 _ _ ⟨T,_,rfl,hF,?_,?_,upG_at _ _ _,by simp [World.setCell,Array.getElem?_modify,hO.b.r],hO.bel.setCell (by show w0.heap.size≤w0.heap.size+2;omega) _⟩) fun _ _ h=>h)
    ·rw [upG_off _ _ (by decide),upG_off _ _ (by decide)];exact g6
    ·rw [upG_off _ _ (by decide),upG_at]
   rw [decide_eq_false hE1] at he
   rw [if_neg hE1] at hDC
   have hE10:E=0:=by simpa using hE1
   obtain ⟨A6,C6,hD6⟩:=hO.d hE10
   obtain ⟨Av,Cv,ys,h611,hV6,hys⟩:=hO.l hE10
   refine wp_cond_false he (wp_skip ?_)
   have hot:=rother_any (some ⟨b,o,none⟩) n cap k D A C d' A6 C6 w6 (hM.later hO.bel) hkn hn4 hD6.mems
   refine wp_seq (ctL77 T s6 w0.heap.size q n cap k d'.n C6 (some ⟨b,o,none⟩) A6 d'.name d'.solve (fun A' c' w'=>DimsV w' A' c' n (putD D k d') (fun i=>if i=k then A6 else A i) (fun i=>if i=k then C6 else C i)) w6 hF ((hO.ag 3 (by decide)).trans hH.s3) ((hO.ag 5 (by decide)).trans hH.s5) ((hO.ag 10 (by decide)).trans hH.s10) ((Lib.cell_of_heap hO.b.o 0).trans rfl) hO.b.xd ((Lib.cell_of_heap hD6.box 0).trans rfl) ((Lib.cell_of_heap hD6.box 1).trans rfl) hD6.c2 hot _ _ fun T w7 A7 c7 hF hX7 hb7=>?_)
   have hbox:(w7.alloc (.cells #[.slice A7 n c7] 24)).heap[w7.heap.size]?=some (.cells #[.slice A7 n c7] 24 (0,0)):=heap_alloc_new ..
   have hb8:Below w7.heap.size w7 (w7.alloc (.cells #[.slice A7 n c7] 24)):=by go_grown
   generalize w7.alloc (.cells #[.slice A7 n c7] 24)=w8 at hbox hb8 ⊢
   have hX8:=hX7.later hb8
   refine wp_seq (ctL78 T _ w7.heap.size n c7 A7 (ruErr (putD D k d') n).2.2 w8 hF (upG_at _ _ _) ((Lib.cell_of_heap hbox 0).trans rfl) (sright_any A7 c7 n _ _ _ w8 hX8) _ _ fun T w9 hF hb9=>?_)
   have hb69:=onB hb7 (onB hb8 hb9)
   have hr9:=(hO.b.later hb69).r
   have hB9:=onB hO.bel hb69
   refine wp_seq (wp_seq (ctL79 T _ (ruErr (putD D k d') n).2.2 w9 hF (upG_at _ _ _) _ _ fun T hF he=>?_))
   by_cases hE2:(ruErr (putD D k d') n).2.2≠0
   ·rw [decide_eq_true hE2] at he
    refine wp_cond_true he (wp_qr (ctR80 T _ _ _ (ruErr (putD D k d') n).2.2 w9 hF ?_ (upG_at _ _ _) hr9 _ _ fun T hF=>bad _ hDC hE2 _ _ ⟨T,_,rfl,hF,?_,?_,upG_at _ _ _,by simp [World.setCell,Array.getElem?_modify,hr9],hB9.setCell (by show w0.heap.size≤w0.heap.size+2;omega) _⟩) fun _ _ h=>h)
    ·rw [upG_off _ _ (by decide),upG_off _ _ (by decide)];exact g6
    ·rw [upG_off _ _ (by decide),upG_off _ _ (by decide),upG_off _ _ (by decide),upG_off _ _ (by decide)];exact g6
    ·rw [upG_off _ _ (by decide),upG_at]
   rw [decide_eq_false hE2] at he
   have hE20:(ruErr (putD D k d') n).2.2=0:=by simpa using hE2
   rw [hE20] at hDC
   have hx9:w9.heap[w7.heap.size]?=_:=(hb9.block _ (Array.getElem?_eq_some_iff.1 hbox).1).trans hbox
   refine wp_cond_false he (wp_skip (wp_end (ctR81 T _ _ w7.heap.size n c7 A7 _ (.slice Av ys.length Cv) w9 hF ?_ ?_ ?_ hr9 ((Lib.cell_of_heap hx9 0).trans rfl) _ _ fun T hF=>?_)))
   ·rw [upG_off _ _ (by decide),upG_off _ _ (by decide)];exact g6
   ·rw [upG_off _ _ (by decide),upG_off _ _ (by decide)];exact h611
   ·rw [upG_off _ _ (by decide),upG_at]
   ·have hBs:Below w0.heap.size w0 (w9.setCell ⟨w0.heap.size+2,0,none⟩ (.slice A7 n c7)):=hB9.setCell (by show w0.heap.size≤w0.heap.size+2;omega) _
    refine fin T _ _ n c7 A7 _ _ hF (by rw [upG_off _ _ (by decide),upG_off _ _ (by decide),upG_off _ _ (by decide),upG_off _ _ (by decide)];exact g6) (by rw [upG_off _ _ (by decide),upG_at]) (upG_at _ _ _) (by simp [World.setCell,Array.getElem?_modify,hr9]) ?_
    have hX9:=hX8.later hb9
    have hV9:=hV6.later hb69
    refine ⟨A7,c7,n,fun i=>if i=k then A6 else A i,fun i=>if i=k then C6 else C i,Av,Cv,ys,by rw [hDC],fun _=>⟨rfl,by rw [hys,hkt,hgl]⟩,fun h=>absurd hDC h,?_,?_,hBs⟩
    ·show DimsV _ _ _ _ (putD D c.dim.toNat (cgD (D c.dim.toNat) c)) _ _
     rw [hkt,hgd]
     exact ct_dimsk hr9 hX9
    ·exact ct_ensk hr9 hV9
  have hp:∀ j,j<xs.length→k<(xs.getD j noL).e.pl.length:=fun j hj=>by
   have h1:=(hens.each _ (List.mem_map.2 ⟨_,enl_mem hj,rfl⟩)).1.len
   rw [h1];exact hkn
  have hsh:∀ e∈lE xs,k<e.pl.length∧e.pl.length≤4∧-1≤e.pl.getD k 0∧e.pl.getD k 0≤1000:=fun e he=>by
   have h1:=(hens.each e he).1
   have h2:=h1.lo k hkn
   have h3:=h1.hi k hkn
   have h4:=(hd12 k hkn).2
   have h5:=h1.len
   exact ⟨by omega,by omega,by omega,by omega⟩
  have hpar:∀ j,j<(D k).n→-1≤((D k).mem j).parent∧((D k).mem j).parent≤1000:=fun j hj=>by
   have h1:=Tr.of hdr j hj
   have h4:=(hd12 k hkn).2
   exact ⟨h1.1,by omega⟩
  have hneg:∀ t:Int,t<0→wrAt (lE xs) k t=false:=fun t ht=>wr_neg hens hkn ht
  have hfew:xs.length≤3000:=by have:=hens.few;rwa [lE_len] at this
  clear hDA hMA
  refine wp_seq (wp_seq (ctL12 T s5 w0.heap.size wh w4 hF hH.s5 hb4.xw _ _ fun T hF he=>wp_qb ?_))
  rw [show (ctC [1,1,1,1,1,1,1,1,1,0,1,3])=(.seq (ctC [1,1,1,1,1,1,1,1,1,0,1,3,0]) (.cond (.tmp 108) (ctC [1,1,1,1,1,1,1,1,1,0,1,3,1,2]) (.seq (ctC [1,1,1,1,1,1,1,1,1,0,1,3,1,5,0]) (.cond (.tmp 142) (ctC [1,1,1,1,1,1,1,1,1,0,1,3,1,5,1,2]) (.seq (ctC [1,1,1,1,1,1,1,1,1,0,1,3,1,5,1,5,0]) (.cond (.tmp 232) (ctC [1,1,1,1,1,1,1,1,1,0,1,3,1,5,1,5,1,2]) (.seq (ctC [1,1,1,1,1,1,1,1,1,0,1,3,1,5,1,5,1,5,0]) (.cond (.tmp 336) (ctC [1,1,1,1,1,1,1,1,1,0,1,3,1,5,1,5,1,5,1,2]) (.seq (ctC [1,1,1,1,1,1,1,1,1,0,1,3,1,5,1,5,1,5,1,5,0]) (.cond (.tmp 388) (ctC [1,1,1,1,1,1,1,1,1,0,1,3,1,5,1,5,1,5,1,5,1,2]) .skip)))))))))) from rfl]
  refine wp_seq (ctT13 T s5 wh w4 hF he _ _ fun T hF he1 he=>?_)
  by_cases hw1:wh=1
  ·rw [decide_eq_true hw1] at he1
   refine wp_cond_true he1 (ctAdd T s5 w0 w4 q _ n cap AE ce xs wh mb tg sg k nm A4 C4 (D k) hF hH (hd12 k hkn).2 hE hp hneg _ _ fun T' s' w' hF' hO=>end' T' s' w' _ _ _ hF' hO ?_ ?_ ?_)
   ·unfold dwE newM;rw [if_pos (cw.trans hw1),cn,ct,cs]
   ·unfold cgD newM;rw [if_pos (cw.trans hw1),cn,ct,cs]
   ·unfold cgL;rw [if_neg (by rw [cw,hw1];decide)]
  rw [decide_eq_false hw1] at he1
  obtain ⟨i,hi⟩:∃ i:Nat,mb=i:=⟨mb.toNat,by omega⟩
  subst hi
  have hin:i<(D k).n:=by omega
  have hmi:c.mb.toNat=i:=by rw [cm,Int.toNat_natCast]
  obtain ⟨g,hg⟩:∃ g,A4=some ⟨g,0,none⟩:=by
   rcases hH.d.row.2 with ⟨-,h0⟩ | ⟨g,cap',cur,e,-⟩
   ·omega
   ·simp only [Value.slice.injEq] at e
    exact ⟨g,e.1⟩
  subst hg
  refine wp_cond_false he1 (wp_seq (ctT18 T s5 wh w4 hF he _ _ fun T hF he2 he=>?_))
  by_cases hw2:wh=2
  ·rw [decide_eq_true hw2] at he2
   have hdw:dwE (D k) (lE xs) k c=if remE (D k) i≠0 then remE (D k) i else (rErr (remD (D k) i)).2:=by unfold dwE;rw [cw,if_neg hw1,if_pos hw2,hmi]
   refine wp_cond_true he2 (ctRem T s5 w0 w4 q _ n cap AE ce xs wh tg sg k i nm g C4 (D k) hF hH (hd12 k hkn).2 hin hE hfew hsh hpar _ _ (fun hne=>bad _ ?_ hne) fun T' s' w' hz hF' hO=>end' T' s' w' _ _ _ hF' hO ?_ ?_ ?_)
   ·rw [hDC,hdw,if_pos hne,if_pos hne]
   ·rw [hdw,if_neg (by simpa using hz)]
   ·unfold cgD;rw [cw,if_neg hw1,if_pos hw2,hmi]
   ·unfold cgL;rw [if_pos (cw.trans hw2),hmi]
  rw [decide_eq_false hw2] at he2
  have hcl:cgL (lE xs) k c=lE xs:=by unfold cgL;rw [if_neg (by rw [cw];exact hw2)]
  refine wp_cond_false he2 (wp_seq (ctT41 T s5 wh w4 hF he _ _ fun T hF he3 he=>?_))
  by_cases hw3:wh=3
  ·rw [decide_eq_true hw3] at he3
   refine wp_cond_true he3 (ctRen T s5 w0 w4 q _ n cap AE ce xs wh (k:Nat) tg sg i nm g C4 (D k) hF hH (hd12 k hkn).2 hin hE (fun j hj=>form_of (hre k hkn) hj) (dim_dis hdr) _ _ fun T' s' w' hF' hO=>end' T' s' w' _ _ _ hF' hO ?_ ?_ hcl)
   ·unfold dwE;rw [cw,if_neg hw1,if_neg hw2,if_pos hw3,hmi,cn]
   ·unfold cgD;rw [cw,if_neg hw1,if_neg hw2,if_pos hw3,hmi,cn]
  rw [decide_eq_false hw3] at he3
  refine wp_cond_false he3 (wp_seq (ctT65 T s5 wh w4 hF he _ _ fun T hF he4 he=>?_))
  by_cases hw4:wh=4
  ·rw [decide_eq_true hw4] at he4
   have hdw:dwE (D k) (lE xs) k c=moveE (D k) (lE xs) k i tg:=by unfold dwE;rw [cw,if_neg hw1,if_neg hw2,if_neg hw3,if_pos hw4,hmi,ct]
   refine wp_cond_true he4 (ctMov T s5 w0 w4 q _ n cap AE ce xs wh tg sg k i nm g C4 (D k) hF hH hin hE hp (hneg _ (by decide)) _ _ (fun hne=>bad _ ?_ hne) fun T' s' w' hz hF' hO=>end' T' s' w' _ _ _ hF' hO ?_ ?_ hcl)
   ·rw [hDC,hdw,if_pos hne]
   ·rw [hdw,hz]
   ·unfold cgD;rw [cw,if_neg hw1,if_neg hw2,if_neg hw3,if_pos hw4,hmi,ct]
  rw [decide_eq_false hw4] at he4
  have hw5:wh=5:=by omega
  refine wp_cond_false he4 (wp_seq (ctT71 T s5 wh w4 hF he _ _ fun T hF he5 _=>?_))
  rw [decide_eq_true hw5] at he5
  have hdw:dwE (D k) (lE xs) k c=resE sg:=by unfold dwE;rw [cw,if_neg hw1,if_neg hw2,if_neg hw3,if_neg hw4,cs]
  refine wp_cond_true he5 (ctRes T s5 w0 w4 q _ n cap AE ce xs wh (k:Nat) tg sg i nm g C4 (D k) hF hH hin hE _ _ (fun hne=>bad _ ?_ hne) fun T' s' w' hz hF' hO=>end' T' s' w' _ _ _ hF' hO ?_ ?_ hcl)
  ·rw [hDC,hdw,if_pos hne]
  ·rw [hdw,hz]
  ·unfold cgD;rw [cw,if_neg hw1,if_neg hw2,if_neg hw3,if_neg hw4,hmi,cs]
 refine wp_seq (wp_seq (ctL2 T _ w0.heap.size n cap A0 (cuErr D n (lE xs)) wh dm w2 hF (by rw [upG_off _ _ (by decide)];exact e3) (by rw [upG_off _ _ (by decide)];exact e5) (upG_at _ _ _) ((Lib.cell_of_heap hb2.o 0).trans rfl) hb2.xw hb2.xd _ _ fun T hF he=>?_))
 by_cases hcu:cuErr D n (lE xs)=0∧(wh<1∨5<wh∨dm<0∨(n:Int)≤dm)
 ·rw [decide_eq_true hcu] at he
  refine wp_cond_true he (ctL3 T _ w2 hF _ _ fun T hF=>rest T 1 ?_ (fun _=>?_) fun h=>absurd h (by decide))
  ·rwa [show upG (upG s1 9 (.int .i64 (cuErr D n (lE xs)))) 9 (.int .i64 1)=upG s1 9 (.int .i64 1) from funext fun i=>by unfold upG;split <;> rfl] at hF
  ·unfold dcE;rw [if_neg (by simpa using hcu.1),cw,cd,if_pos hcu.2]
 ·rw [decide_eq_false hcu] at he
  refine wp_cond_false he (wp_skip (rest T _ hF (fun h=>?_) fun h=>⟨h,fun hr=>hcu ⟨h,hr⟩⟩))
  unfold dcE;rw [if_pos h]
end Go.Proofs.YtfldgghobddgkaaGreatDoor
