/- Texts of one chain, joined. -/
import Derived.Test.YtljkgcfnoegibaaGreatDoorWcAF
import Derived.Test.YtljkgcfnoegibaaGreatDoorWcAI
import Derived.Test.YtljkgcfnoegibaaGreatDoorWcAJ
import Derived.Test.YtljkgcfnoegibaaGreatDoorWcAQ
import Derived.Test.YtljkgcfnoegibaaGreatDoorWcAR
import Derived.Test.YtljkgcfnoegibaaGreatDoorWcAX
import Derived.Deep.Slices
import Derived.SizedLaws
import Derived.KernelRfl
set_option maxHeartbeats 8000000
set_option maxRecDepth 20000
namespace Go.Proofs.YtljkgcfnoegibaaGreatDoor
open Go Go.RowKit
open G (Tok Er Ins Fun peek0 peek1 atOf)
theorem kind_bla (c:UInt8) (h:inB [32,9,10,13] c=true):L2.togB c.toNat=false∧L2.aloB c.toNat=false∧¬(c.toNat:Int)=35∧L2.blaB c.toNat=true:=by
 have key:∀n:Fin 256,inB [32,9,10,13] (UInt8.ofNat n.val)=true→L2.togB (UInt8.ofNat n.val).toNat=false∧L2.aloB (UInt8.ofNat n.val).toNat=false∧¬((UInt8.ofNat n.val).toNat:Int)=35∧L2.blaB (UInt8.ofNat n.val).toNat=true:=by decide +kernel
 have:=key ⟨c.toNat,c.toNat_lt⟩
 rw [show UInt8.ofNat c.toNat=c from UInt8.ofNat_toNat] at this
 exact this h
theorem kind_alo (c:UInt8) (h:inB [40,41,123,125,61,58] c=true):L2.togB c.toNat=false∧L2.aloB c.toNat=true:=by
 have key:∀n:Fin 256,inB [40,41,123,125,61,58] (UInt8.ofNat n.val)=true→L2.togB (UInt8.ofNat n.val).toNat=false∧L2.aloB (UInt8.ofNat n.val).toNat=true:=by decide +kernel
 have:=key ⟨c.toNat,c.toNat_lt⟩
 rw [show UInt8.ofNat c.toNat=c from UInt8.ofNat_toNat] at this
 exact this h
theorem scan_shut (l:List UInt8) (p q:Nat) (ws:List (Nat × Nat)) (h:∀c r,l=c :: r→L2.togB c.toNat=false):L2.scan l q ws (some p) false=L2.scan l q (ws ++ [(p,q)]) none false:=by
 cases l with
 |nil=>rfl
 |cons c r=>
  have hc:=h c r rfl
  by_cases h2:L2.aloB c.toNat=true
  ·rw [L2.scan_alo r q ws (some p) hc h2,L2.scan_alo r q (ws ++ [(p,q)]) none hc h2];rfl
  ·have h2:L2.aloB c.toNat=false:=by simpa using h2
   by_cases h3:(c.toNat:Int)=35
   ·rw [L2.scan_hash r q ws (some p) hc h2 h3,L2.scan_hash r q (ws ++ [(p,q)]) none hc h2 h3];rfl
   ·by_cases h4:L2.blaB c.toNat=true
    ·rw [L2.scan_bla r q ws (some p) hc h2 h3 h4,L2.scan_bla r q (ws ++ [(p,q)]) none hc h2 h3 h4];rfl
    ·have h4:L2.blaB c.toNat=false:=by simpa using h4
     rw [L2.scan_err r q ws (some p) hc h2 h3 h4,L2.scan_err r q (ws ++ [(p,q)]) none hc h2 h3 h4]
def SpR (w:World) (s:ByteArray) (v:Value) (ws:List (Nat × Nat)) (wr:World):Prop:=
 wr.ownsRow (w.heap.size+1) 95 2 v ws.length (L2.cellsT (ws.map (L2.tok s)))∧wr.heap[w.heap.size]? =some (.cells #[.int .i64 0,.int .i64 0] 29 (0,0))∧Below w.heap.size w wr∧w.heap.size < wr.heap.size
theorem SpR.step {w wr w2:World} {s:ByteArray} {v v':Value} {ws:List (Nat × Nat)} {a b:Nat} {o:Obj} (h:SpR w s v ws wr)
  (own:w2.ownsRow (w.heap.size+1) 95 2 v' (ws.length+1) (L2.cellsT (ws.map (L2.tok s)) ++ [.string (s.extract a b),.int .i64 a])) (hg:(wr.alloc o).grownBy w2 v.ownBlock):SpR w s v' (ws ++ [(a,b)]) w2:=by
 obtain⟨h1,h2,h3,h4⟩:=h
 have bx:=below_box wr o
 have hz:=bx.size
 have hrow:∀q,v.ownBlock=some q→w.heap.size+1≤q:=fun q hq=>(h1.lt q hq).1
 refine⟨by rw [L2.cellsT_snoc,List.length_append];exact own,(hg.block _ (by omega) (fun e=>by have:=hrow _ e.symm;omega)).trans ((bx.block _ h4).trans h2),?_,by have:=hg.size;omega⟩
 exact⟨hg.os.trans (bx.os.trans h3.os),hg.tape.trans (bx.tape.trans h3.tape),hg.output.trans (bx.output.trans h3.output),by have:=hg.size;have:=h3.size;omega,fun k hk=>(hg.block k (by omega) (fun e=>by have:=hrow k e.symm;omega)).trans ((bx.block k (by omega)).trans (h3.block k hk))⟩
theorem rsplit (s:ByteArray) (hs:s.size≤65536) (hn:∀c∈s.data.toList,(c.toNat:Int)≠35) {ws:List (Nat × Nat)} (hw:L2.words s= .inr ws):Splits s (toks s ws):=by
 intro w
 obtain⟨i0,hi,hz0,hz1,hz2⟩:=info_parts L2.Tryz.info95
 have hs1:¬(65536:Int) < (s.size:Int):=by omega
 have hs2:decide ((65536:Int) < (s.size:Int))=false:=by simpa using hs1
 have HN:=hide hn
 have HW:Hid (L2.scan (s.data.toList.drop 0) 0 [] none false= .inr ws):=hide hw
 have S0:Hid (SpR w s (.slice none 0 0) [] (w.alloc (.cells #[.int .i64 0,.int .i64 0] 29))):=hide ⟨World.ownsRow_nil _ _ _ _,heap_alloc_new w _,below_box w _,by simp⟩
 clear hn hw
 go_enter Tryz.func34,Tryz.ntmps34
 go_upto_region 1 with fail
 show Code.wp _ _ _ _ (w.alloc (.cells #[.int .i64 0,.int .i64 0] 29))
 generalize w.alloc (.cells #[.int .i64 0,.int .i64 0] 29)=W0 at *
 go_wp2_with fail
 go_loopw [4,5] (fun v i wr=>∃(p:Nat) (us:List (Nat × Nat)),p≤s.size∧i= .int .i64 p∧us.length≤p∧Hid (SpR w s v us wr)∧Hid (L2.scan (s.data.toList.drop p) p us none false= .inr ws)) (fun _ i _=>s.size - (intOf i).toNat)
 case atStart=>exact⟨0,[],Nat.zero_le _,rfl,by simp,S0,HW⟩
 case round=>
  obtain⟨p,us,hp,rfl,hus,S,HR⟩:=hrel
  by_cases hlt:p < s.size
  ·have hlt':(p:Int) < (s.size:Int):=by omega
   obtain⟨d,hd⟩:∃d,d=s[p]:=⟨_,rfl⟩
   have hd1:(s[p].toNat:Int)=(d.toNat:Int):=by rw [hd]
   have HD:Hid (L2.scan (d :: s.data.toList.drop (p+1)) p us none false= .inr ws):=hide (by rw [hd,←L2.drop_cons s p hlt];exact HR.out)
   have hn35:((d.toNat:Int) == 35)=false:=by
    have:=HN.out d (by rw [hd];exact List.mem_of_mem_drop (i:=p) (by rw [L2.drop_cons s p hlt];simp))
    simpa using this
   clear hd
   obtain⟨ao,cp,rfl⟩:=own_len S.out.1
   go_wp2_with fail
   refine(rin d [32,9,10,13] _ (by simp)).mono ?_;rintro e w1 ⟨rfl,hw1⟩
   rw [hw1]
   clear hw1
   cases hb:inB [32,9,10,13] d with
   |true=>
    have HE:Hid (L2.scan (s.data.toList.drop (p+1)) (p+1) us none false= .inr ws):=hide (by
     obtain⟨k1,k2,k3,k4⟩:=kind_bla d hb
     have:=HD.out
     rwa [L2.scan_bla _ _ _ _ k1 k2 k3 k4] at this)
    clear HD HR hb
    go_wp2_with fail
    go_roundw
    case rel=>exact⟨p+1,us,by omega,by go_num,by omega,S,HE⟩
    case measure=>simp [intOf];omega
   |false=>
    go_wp2_with fail
    refine(rin d [40,41,123,125,61,58] _ (by simp)).mono ?_;rintro e w1 ⟨rfl,hw1⟩
    rw [hw1]
    clear hw1
    cases ha:inB [40,41,123,125,61,58] d with
    |true=>
     have HE:Hid (L2.scan (s.data.toList.drop (p+1)) (p+1) (us ++ [(p,p+1)]) none false= .inr ws):=hide (by
      obtain⟨k1,k2⟩:=kind_alo d ha
      have:=HD.out
      rwa [L2.scan_alo _ _ _ _ k1 k2] at this)
     have OS:=hide S.out.1
     have hsw:=S.out.2.2.2
     have t2:us.length+1≤maxLen:=by unfold maxLen;omega
     have t3:(us.length+1) * 24≤140737488355328:=by omega
     clear HD HR hb ha
     go_wp2_with (at_builtin;refine wpList_append_own _ rfl (.tmp 39) (.tmp 47) 65 rfl (w.heap.size+1) 95 i0 _ 2 24 Tryz.underlying65 hi hz0 hz1 hz2 rfl (by decide) _ _ _ rfl (OS.out.alloc _) ⟨wr.heap.size,0,none⟩ 1 1 [.string (s.extract p (p+1)),.int .i64 p] rfl rfl L2.cells_two L2.one_two t2 t3 (by simp;omega) ?_;intro v2 w2 own2 grow2 _)
     have S2:=hide (S.out.step own2 grow2)
     clear own2 grow2
     go_wp2_with fail
     go_roundw
     case rel=>exact⟨p+1,us ++ [(p,p+1)],by omega,by go_num,by simp;omega,S2,HE⟩
     case measure=>simp [intOf];omega
    |false=>
     have hlet:letB d=true:=by
      cases hl:letB d with
      |true=>rfl
      |false=>
       have:=HD.out
       rw [L2.scan_err _ _ _ _ (by rw [←letB_tog];exact hl) (by rw [←inB_alo];exact ha) (by simpa using hn35) (by rw [←inB_bla];exact hb)] at this
       cases this
     have HLET:=hide hlet
     go_wp2_with fail
     refine(rletter d _).mono ?_;rintro e w1 ⟨rfl,hw1⟩
     rw [hw1,HLET.out]
     clear hw1 hlet
     have HR0:Hid (L2.scan (s.data.toList.drop p) p us none false= .inr ws):=HR
     clear HD HR hb ha
     go_wp2_with fail
     go_loopw [7] (fun j wr2=>∃(q:Nat) (bq:Option Nat),p≤q∧q≤s.size∧j= .int .i64 q∧Hid (SpR w s (.slice ao us.length cp) us wr2)∧Hid (bq.getD q=p∧(p < q→bq=some p)∧L2.scan (s.data.toList.drop q) q us bq false= .inr ws)) (fun j _=>s.size - (intOf j).toNat)
     case atStart=>exact⟨p,none,Nat.le_refl _,by omega,rfl,S,hide ⟨rfl,fun h=>absurd h (Nat.lt_irrefl _),HR0.out⟩⟩
     case round=>
      obtain⟨q,bq,hpq,hqs,rfl,SQ,HQ⟩:=hrel
      have fin:Hid ((∀c r,s.data.toList.drop q=c :: r→L2.togB c.toNat=false)→p < q∧L2.scan (s.data.toList.drop q) q (us ++ [(p,q)]) none false= .inr ws):=hide (by
       intro hx
       have hpq2:p < q:=by
        refine Classical.byContradiction fun hc=> ?_
        have e:q=p:=by omega
        have:=hx _ _ (by rw [e];exact L2.drop_cons s p hlt)
        have h2:=HLET.out
        rw [letB_tog] at h2
        have h3:(s[p].toNat:Int)=(d.toNat:Int):=hd1
        rw [h3] at this
        rw [this] at h2
        cases h2
       obtain⟨_,k2,k3⟩:=HQ.out
       rw [k2 hpq2,scan_shut _ _ _ _ hx] at k3
       exact⟨hpq2,k3⟩)
      by_cases hq:q < s.size
      ·have hq':(q:Int) < (s.size:Int):=by omega
       obtain⟨d2,hd2⟩:∃d2,d2=s[q]:=⟨_,rfl⟩
       have hd3:(s[q].toNat:Int)=(d2.toNat:Int):=by rw [hd2]
       have HDQ:=hide (show s.data.toList.drop q=d2 :: s.data.toList.drop (q+1) by rw [hd2];exact L2.drop_cons s q hq)
       clear hd2
       go_wp2_with fail
       refine(rletter d2 _).mono ?_;rintro e w1 ⟨rfl,hw1⟩
       rw [hw1]
       clear hw1
       cases hl2:letB d2 with
       |true=>
        have HQ2:Hid ((some p).getD (q+1)=p∧(p < q+1→some p=some p)∧L2.scan (s.data.toList.drop (q+1)) (q+1) us (some p) false= .inr ws):=hide ⟨rfl,fun _=>rfl,by
         obtain⟨k1,_,k3⟩:=HQ.out
         rw [HDQ.out,L2.scan_tog _ _ _ _ (by rw [←letB_tog];exact hl2),k1] at k3
         exact k3⟩
        clear HQ fin HDQ hl2
        go_wp2_with fail
        go_roundw
        case rel=>exact⟨q+1,some p,by omega,by omega,by go_num,SQ,hide ⟨rfl,fun _=>rfl,HQ2.out.2.2⟩⟩
        case measure=>simp [intOf];omega
       |false=>
        have HF:=hide (fin.out fun c r hcr=>by
         rw [HDQ.out] at hcr
         cases hcr
         rw [←letB_tog];exact hl2)
        clear HQ fin HDQ hl2
        have OS:=hide SQ.out.1
        have hsw:=SQ.out.2.2.2
        have t2:us.length+1≤maxLen:=by unfold maxLen;omega
        have t3:(us.length+1) * 24≤140737488355328:=by omega
        go_wp2_with (at_builtin;refine wpList_append_own _ rfl (.tmp 66) (.tmp 73) 65 rfl (w.heap.size+1) 95 i0 _ 2 24 Tryz.underlying65 hi hz0 hz1 hz2 rfl (by decide) _ _ _ rfl (OS.out.alloc _) ⟨wr.heap.size,0,none⟩ 1 1 [.string (s.extract p q),.int .i64 p] rfl rfl L2.cells_two L2.one_two t2 t3 (by simp;omega) ?_;intro v2 w2 own2 grow2 _)
        have S2:=hide (SQ.out.step own2 grow2)
        have hpq2:=HF.out.1
        clear own2 grow2
        go_wp2_with fail
        go_roundw
        case rel=>exact⟨q,us ++ [(p,q)],hqs,rfl,by simp;omega,S2,hide HF.out.2⟩
        case measure=>simp [intOf];omega
      ·have hq':¬(q:Int) < (s.size:Int):=by omega
       have hq2:decide ((q:Int) < (s.size:Int))=false:=by simpa using hq'
       have HF:=hide (fin.out fun c r hcr=>by
        rw [List.drop_eq_nil_of_le (by have e9:s.data.toList.length=s.size:=(by simp);omega)] at hcr
        cases hcr)
       clear HQ fin
       have OS:=hide SQ.out.1
       have hsw:=SQ.out.2.2.2
       have t2:us.length+1≤maxLen:=by unfold maxLen;omega
       have t3:(us.length+1) * 24≤140737488355328:=by omega
       go_wp2_with (at_builtin;refine wpList_append_own _ rfl (.tmp 66) (.tmp 73) 65 rfl (w.heap.size+1) 95 i0 _ 2 24 Tryz.underlying65 hi hz0 hz1 hz2 rfl (by decide) _ _ _ rfl (OS.out.alloc _) ⟨wr.heap.size,0,none⟩ 1 1 [.string (s.extract p q),.int .i64 p] rfl rfl L2.cells_two L2.one_two t2 t3 (by simp;omega) ?_;intro v2 w2 own2 grow2 _)
       have S2:=hide (SQ.out.step own2 grow2)
       have hpq2:=HF.out.1
       clear own2 grow2
       go_wp2_with fail
       go_roundw
       case rel=>exact⟨q,us ++ [(p,q)],hqs,rfl,by simp;omega,S2,hide HF.out.2⟩
       case measure=>simp [intOf];omega
  ·have hlt':¬(p:Int) < (s.size:Int):=by omega
   have hlt2:decide ((p:Int) < (s.size:Int))=false:=by simpa using hlt'
   obtain rfl:us=ws:=by
    have:=HR.out
    rw [List.drop_eq_nil_of_le (by have e9:s.data.toList.length=s.size:=(by simp);omega)] at this
    injection this
   obtain⟨ao,cp,rfl⟩:=own_len S.out.1
   obtain⟨o1,s3,bb,hwz⟩:=S.out
   have u1:wr.cell? ⟨w.heap.size,0,none⟩=some (.int .i64 0):=by simp [World.cell?,s3]
   have u2:wr.cell? ⟨w.heap.size,1,none⟩=some (.int .i64 0):=by simp [World.cell?,s3]
   have v1:wr.frozen? ⟨w.heap.size,0,none⟩=false:=by simp [World.frozen?,s3]
   have v2:wr.frozen? ⟨w.heap.size,1,none⟩=false:=by simp [World.frozen?,s3]
   have FF:=((Far.refl w.heap.size wr).set 0 (.int .i64 0)).set 1 (.int .i64 0)
   have OO:=hide (own_base (FF.own o1 (own_ne o1 s3 (by decide))) (Nat.le_succ w.heap.size))
   have BB:=hide ((bb.setCell (p:=⟨w.heap.size,0,none⟩) (Nat.le_refl _) (.int .i64 0)).setCell (p:=⟨w.heap.size,1,none⟩) (Nat.le_refl _) (.int .i64 0))
   have HL:=hide (show us.length=(toks s us).length by simp [toks])
   have HC:=hide (toks_cells s us)
   clear o1 s3 bb FF S HR
   go_wp2_with fail
   exact bodyPost_ret (v:= .tuple #[.slice ao us.length cp,.agg #[.int .i64 0,.int .i64 0]]) (by simp [results,Tryz.results34,go_sem,u1,u2]) rfl ⟨_,rfl,by rw [←HC.out,←HL.out];exact OO.out,BB.out⟩
theorem fw_end {E:Int}:∀(f n:Nat) (acc:List Fun) (l:List Tok) (xs:List Fun) (n':Nat) (r:List Tok),l.length < f→fwG E f n acc l= .ok ((xs,n'),r)→r= []:=by
 intro f
 induction f with
 |zero=>intro n acc l xs n' r h;omega
 |succ f ih=>
  intro n acc l xs n' r h hr
  by_cases hl:l= []
  ·subst hl;rw [fw_stop] at hr;cases hr;rfl
  ·by_cases h32:acc.length < 32
   ·cases hq:funG E n l with
    |error er=>rw [fw_bad hl h32 hq] at hr;cases hr
    |ok p=>
     have hless:=fun_less (x:=p.1.1) (n':=p.1.2) (l':=p.2) hq
     rw [fw_go (x:=p.1.1) (n':=p.1.2) (l':=p.2) hl h32 hq] at hr
     exact ih _ _ _ _ _ _ (by omega) hr
   ·rw [fw_many hl (by omega)] at hr;cases hr
theorem rtext_any (s:ByteArray) (hs:s.size≤65536) (hn:∀c∈s.data.toList,(c.toNat:Int)≠35) {xs:List Fun} (h:textG s= .ok xs) (w:World):
  Calls Tryz.prog 20 #[.string s] w fun e w'=>∃v,e= .returned (.tuple #[.agg #[v],.agg #[.int .i64 0,.int .i64 0]])∧ProgVal w.heap.size xs v w'∧Below w.heap.size w w':=by
 unfold textG at h
 cases hw:L2.words s with
 |inl x=>rw [hw] at h;cases h
 |inr ws=>
  rw [hw] at h
  replace h:(match progG (s.size:Int) (toks s ws)with | .ok ((xs,_),_)=>Except.ok xs | .error er=> .error er)= .ok xs:=h
  cases hp:progG (s.size:Int) (toks s ws)with
  |error er=>rw [hp] at h;cases h
  |ok p=>
   obtain⟨⟨ys,n'⟩,r⟩:=p
   rw [hp] at h
   cases h
   have hr:r= []:=fw_end _ _ _ _ _ _ _ (Nat.lt_succ_self _) hp
   subst hr
   exact rtext s (toks_short hw hs) (rsplit s hs hn hw) hp w
open G (Tok Er Ins Fun)
theorem rshaped_any (f:Fun) (v:Value) (w:World) (hv:FunV w f v):
  Calls Tryz.prog 42 #[v] w fun e w'=>e= .returned (.agg #[.int .i64 (shapedF f).1,.int .i64 (shapedF f).2])∧Below w.heap.size w w':=by
 obtain⟨nm,ps,rt,bl,pl⟩:=f
 have hv2:=hv
 obtain⟨vp,vb,rfl,⟨ao,c,rfl,h1,_⟩,h2⟩:=hv
 obtain⟨bo,cb,rfl,_⟩:=h2
 exact rshaped_try nm ps rt pl bl ao bo c cb w hv2
open Go Go.RowKit Go.ChangeShapes Go.WideShapes
theorem oc2:Tryz.prog.cellsOf 2=1:=by kernel_rfl
theorem oc3:Tryz.prog.cellsOf 3=1:=by kernel_rfl
theorem oc9:Tryz.prog.cellsOf 9=1:=by kernel_rfl
theorem oc22:Tryz.prog.cellsOf 22=1:=by kernel_rfl
theorem oc24:Tryz.prog.cellsOf 24=1:=by kernel_rfl
theorem oc31:Tryz.prog.cellsOf 33=1:=by kernel_rfl
theorem oc32:Tryz.prog.cellsOf 34=1:=by kernel_rfl
theorem oc34:Tryz.prog.cellsOf 36=5:=by kernel_rfl
theorem oc36:Tryz.prog.cellsOf 45=1:=by kernel_rfl
theorem oc39:Tryz.prog.cellsOf 47=8:=by kernel_rfl
theorem ob3:Tryz.prog.bytesOf 3=8:=by kernel_rfl
theorem ob34:Tryz.prog.bytesOf 36=80:=by kernel_rfl
theorem ob36:Tryz.prog.bytesOf 45=24:=by kernel_rfl
theorem ob39:Tryz.prog.bytesOf 47=104:=by kernel_rfl
def Sz {H:Type} (t:TypeId) (d:DataW H):Prop:=∀n∈d.weights Tryz.prog t,n≤reachBytes
section
variable {H:Type}
theorem Sz.field {t:TypeId} {fs:Array Field} {parts:List (DataW H)} (hu:Tryz.prog.underlying t=some (.struct fs)) (h:Sz t (.agg parts)) {i:Nat} {ti:TypeId} {di:DataW H} (ht:(fs.toList.map (·.type))[i]? =some ti) (hd:parts[i]? =some di):Sz ti di:=by
 intro n hn
 refine h n ?_
 simp only [DataW.weights,hu]
 exact DataW.weights_mem_each ht hd n hn
theorem weightsAll_mem {e:TypeId} {d:DataW H}:∀ {l:List (DataW H)},d∈l→∀n∈d.weights Tryz.prog e,n∈DataW.weightsAll Tryz.prog e l
 |x :: l,hd,n,hn=>by
  simp only [DataW.weightsAll,List.mem_append]
  rcases List.mem_cons.1 hd with rfl | hd
  ·exact .inl hn
  ·exact .inr (weightsAll_mem hd n hn)
theorem Sz.elem {t e:TypeId} {elems spare:List (DataW H)} (hu:Tryz.prog.underlying t=some (.slice e)) (h:Sz t (.slice elems spare)) {d:DataW H} (hd:d∈elems):Sz e d:=by
 intro n hn
 refine h n ?_
 simp only [DataW.weights,hu,List.mem_cons,List.mem_append]
 exact .inr (.inl (weightsAll_mem hd n hn))
theorem Sz.len {t e:TypeId} {elems spare:List (DataW H)} (hu:Tryz.prog.underlying t=some (.slice e)) (h:Sz t (.slice elems spare)):(elems.length+spare.length) * Tryz.prog.bytesOf e≤reachBytes:=
 h _ (by simp [DataW.weights,hu])
end
def Few (n:Nat):Prop:=n≤140737488355328
theorem few_of {n b m:Nat} (hb:1≤b) (h:(n+m) * b≤reachBytes):Few n:=by
 have h1:(n+m) * 1≤(n+m) * b:=Nat.mul_le_mul_left _ hb
 have h2:reachBytes=140737488351232:=rfl
 unfold Few;omega
def GxI (x:Ins):Prop:=I64 x.2.1∧I64 x.2.2.1∧(∀i∈x.2.2.2.2.1,I64 i)∧(∀i∈x.2.2.2.2.2.1,I64 i)∧Few x.2.2.2.2.1.length∧Few x.2.2.2.2.2.1.length∧Few x.2.2.2.2.2.2.1.length
def GxF (f:Fun):Prop:=Few f.1.length∧Few f.2.1.length∧Few f.2.2.2.1.length∧∀b∈f.2.2.2.1,∀x∈b,GxI x
section
variable {H:Type} {enc:TypeId × Value→H} {W:World}
theorem i64_wf {n:Int} (h:(Lit.int .i64 n).wf=true):I64 n:=by
 simp [Lit.wf,IntKind.min,IntKind.max,IntKind.bits,IntKind.signed] at h
 unfold I64;omega
theorem opn_int {fuel:Nat} {v:Value} {x:DataW H × List MemPlace} (h:DataW.trod enc Tryz.prog W 0 (fun _=>true) true fuel 3 [v]=some x):∃n,v= .int .i64 n∧I64 n:=by
 obtain⟨n,e,_,hw⟩:=DataW.trod_int Tryz.underlying3 h
 simp only [List.cons.injEq,and_true] at e
 exact⟨n,e,i64_wf hw⟩
theorem opn_int2 {fuel:Nat} {v:Value} {x:DataW H × List MemPlace} (h:DataW.trod enc Tryz.prog W 0 (fun _=>true) true fuel 2 [v]=some x):∃n,v= .int .i64 n∧I64 n:=by
 obtain⟨n,e,_,hw⟩:=DataW.trod_int Tryz.underlying2 h
 simp only [List.cons.injEq,and_true] at e
 exact⟨n,e,i64_wf hw⟩
theorem opn_str {fuel:Nat} {v:Value} {x:DataW H × List MemPlace} (h:DataW.trod enc Tryz.prog W 0 (fun _=>true) true fuel 9 [v]=some x) (hz:Sz 9 x.1):∃s:List UInt8,v= .string (bs s)∧Few s.length:=by
 obtain⟨s,e,rfl,_⟩:=DataW.trod_string Tryz.underlying9 h
 simp only [List.cons.injEq,and_true] at e
 refine⟨s.data.toList,by rw [e,bs_of],?_⟩
 have h1:=hz s.data.toList.length (by simp [DataW.weights])
 have h2:reachBytes=140737488351232:=rfl
 unfold Few;omega
theorem spot_none {W:World} {a:Addr} {v:Value} (h:W.cell? (a.add 0)=some v):∃b o,a=⟨b,o,none⟩∧b < W.heap.size:=by
 obtain⟨b,o,s⟩:=a
 have hs:s=none:=by simpa [Addr.add] using World.cell?_spot h
 subst hs
 have hb:=World.block_lt_of_cell? W _ h
 exact⟨b,o,rfl,by simpa [Addr.add] using hb⟩
theorem opn_ints {fuel:Nat} {v:Value} {x:DataW H × List MemPlace} (h:DataW.trod enc Tryz.prog W 0 (fun _=>true) true fuel 33 [v]=some x) (hz:Sz 33 x.1):∃l:List Int,IntsV W l v∧(∀n∈l,I64 n)∧Few l.length:=by
 rcases open_ints Tryz.underlying33 Tryz.underlying3 oc3 h with ⟨e,_⟩ | ⟨a,len,cap,zs,e,_,hl,hm,hzl,rfl,hc,hw⟩
 ·simp only [List.cons.injEq,and_true] at e
  exact⟨[],⟨none,0,e,.inl rfl,Nat.le_refl _,Nat.zero_le _⟩,fun _ h=>(by cases h),by unfold Few;simp⟩
 ·simp only [List.cons.injEq,and_true] at e
  rw [if_pos rfl] at hzl
  have hlen:(zs.take len).length=len:=by simp;omega
  have hsl:=Sz.len Tryz.underlying33 hz
  refine⟨zs.take len,⟨some a,cap,by rw [hlen];exact e,?_,by omega,hm⟩,fun n hn=>i64_wf (hw n (List.mem_of_mem_take hn)),?_⟩
  ·by_cases h0:len=0
   ·exact .inl (by rw [h0];rfl)
   ·obtain⟨b,o,rfl,hb⟩:=spot_none (hc 0 (by omega))
    refine .inr ⟨b,o,rfl,hb,fun i n hi=> ?_⟩
    obtain⟨h1,h2⟩:=List.getElem?_eq_some_iff.1 hi
    have:=hc i (by omega)
    rw [add_plain] at this
    rw [this,List.getD_eq_getElem?_getD,List.getElem?_eq_getElem (by omega)]
    rw [List.getElem_take] at h2
    rw [←h2];rfl
  ·rw [ob3] at hsl
   simp only [lits,List.length_map] at hsl
   exact few_of (b:=8) (by omega) hsl
theorem xs_at {xs:List (DataW H × List MemPlace)} {n i:Nat} (h:xs.length=n) (hi:i < n):∃y,xs[i]? =some y:=⟨xs[i]'(by omega),List.getElem?_eq_getElem (by omega)⟩
theorem eight_l {cs:List Value} (h:cs.length=8):∃a b c d e f g i,cs= [a,b,c,d,e,f,g,i]:=by
 match cs,h with
 |[a,b,c,d,e,f,g,i],_=>exact⟨a,b,c,d,e,f,g,i,rfl⟩
theorem five_l {cs:List Value} (h:cs.length=5):∃a b c d e,cs= [a,b,c,d,e]:=by
 match cs,h with
 |[a,b,c,d,e],_=>exact⟨a,b,c,d,e,rfl⟩
theorem opn_ins {fuel:Nat} {cs:List Value} {x:DataW H × List MemPlace} (h:DataW.trod enc Tryz.prog W 0 (fun _=>true) true fuel 47 cs=some x) (hz:Sz 47 x.1):
  ∃(y:Ins) (va vt:Value),cs=insC y va vt∧IntsV W y.2.2.2.2.1 va∧IntsV W y.2.2.2.2.2.1 vt∧GxI y:=by
 obtain⟨xs,n,_,rfl,hl,hlen,hf⟩:=DataW.trod_struct Tryz.underlying47 h
 obtain⟨v0,v1,v2,v3,v4,v5,v6,v7,rfl⟩:=eight_l (hl.trans oc39)
 have fld:∀(i:Nat) (ti:TypeId) (y:DataW H × List MemPlace),((#[_,_,_,_,_,_,_,_]:Array Field).toList.map (·.type))[i]? =some ti→xs[i]? =some y→Sz ti y.1:=fun i ti y ht hy=>Sz.field Tryz.underlying47 hz ht (by rw [List.getElem?_map,hy];rfl)
 obtain⟨y0,g0⟩:=xs_at hlen (i:=0) (by decide)
 obtain⟨y1,g1⟩:=xs_at hlen (i:=1) (by decide)
 obtain⟨y2,g2⟩:=xs_at hlen (i:=2) (by decide)
 obtain⟨y3,g3⟩:=xs_at hlen (i:=3) (by decide)
 obtain⟨y4,g4⟩:=xs_at hlen (i:=4) (by decide)
 obtain⟨y5,g5⟩:=xs_at hlen (i:=5) (by decide)
 obtain⟨y6,g6⟩:=xs_at hlen (i:=6) (by decide)
 obtain⟨y7,g7⟩:=xs_at hlen (i:=7) (by decide)
 have f0:DataW.trod enc Tryz.prog W 0 (fun _=>true) true n 3 ([v0,v1,v2,v3,v4,v5,v6,v7].take (Tryz.prog.cellsOf 3))=some y0:=(hf 0 _ rfl).trans g0
 have f1:DataW.trod enc Tryz.prog W 0 (fun _=>true) true n 3 ([v1,v2,v3,v4,v5,v6,v7].take (Tryz.prog.cellsOf 3))=some y1:=(hf 1 _ rfl).trans g1
 have f2:DataW.trod enc Tryz.prog W 0 (fun _=>true) true n 2 ([v2,v3,v4,v5,v6,v7].take (Tryz.prog.cellsOf 2))=some y2:=(hf 2 _ rfl).trans g2
 have f3:DataW.trod enc Tryz.prog W 0 (fun _=>true) true n 3 ([v3,v4,v5,v6,v7].take (Tryz.prog.cellsOf 3))=some y3:=(hf 3 _ rfl).trans g3
 have f4:DataW.trod enc Tryz.prog W 0 (fun _=>true) true n 33 ([v4,v5,v6,v7].take (Tryz.prog.cellsOf 33))=some y4:=(hf 4 _ rfl).trans g4
 have f5:DataW.trod enc Tryz.prog W 0 (fun _=>true) true n 33 ([v5,v6,v7].take (Tryz.prog.cellsOf 33))=some y5:=(hf 5 _ rfl).trans g5
 have f6:DataW.trod enc Tryz.prog W 0 (fun _=>true) true n 9 ([v6,v7].take (Tryz.prog.cellsOf 9))=some y6:=(hf 6 _ rfl).trans g6
 have f7:DataW.trod enc Tryz.prog W 0 (fun _=>true) true n 3 ([v7].take (Tryz.prog.cellsOf 3))=some y7:=(hf 7 _ rfl).trans g7
 rw [oc3] at f0 f1 f3 f7
 rw [oc2] at f2
 rw [oc31] at f4 f5
 rw [oc9] at f6
 obtain⟨k,rfl,_⟩:=opn_int f0
 obtain⟨id,rfl,hid⟩:=opn_int f1
 obtain⟨nn,rfl,hn⟩:=opn_int2 f2
 obtain⟨ty,rfl,_⟩:=opn_int f3
 obtain⟨ar,ha,hai,hal⟩:=opn_ints f4 (Sz.field Tryz.underlying47 hz (i:=4) rfl (by rw [List.getElem?_map,g4];rfl))
 obtain⟨tt,ht,hti,htl⟩:=opn_ints f5 (Sz.field Tryz.underlying47 hz (i:=5) rfl (by rw [List.getElem?_map,g5];rfl))
 obtain⟨nm,rfl,hnm⟩:=opn_str f6 (Sz.field Tryz.underlying47 hz (i:=6) rfl (by rw [List.getElem?_map,g6];rfl))
 obtain⟨pl,rfl,_⟩:=opn_int f7
 exact⟨(k,id,nn,ty,ar,tt,nm,pl),v4,v5,rfl,ha,ht,hid,hn,hai,hti,hal,htl,hnm⟩
theorem add2 (b o i j:Nat):((⟨b,o,none⟩:Addr).add i).add j=⟨b,o+i+j,none⟩:=by rw [Deep.add_add,add_plain,Nat.add_assoc]
theorem opn_blk {fuel:Nat} {v:Value} {x:DataW H × List MemPlace} (h:DataW.trod enc Tryz.prog W 0 (fun _=>true) true fuel 45 [v]=some x) (hz:Sz 45 x.1):∃l:List Ins,BlkR W l v∧(∀y∈l,GxI y)∧Few l.length:=by
 rcases Deep.open_slice Tryz.underlying45 h with ⟨e,_⟩ | ⟨a,len,cap,m,n,D,Pl,e,_,hl,hm,hmm,rfl,hx⟩
 ·simp only [List.cons.injEq,and_true] at e
  exact⟨[],⟨none,0,e,Nat.le_refl _,Nat.zero_le _,.inl rfl⟩,fun _ h=>(by cases h),by unfold Few;simp⟩
 ·simp only [List.cons.injEq,and_true] at e
  rw [if_pos rfl] at hmm
  subst hmm
  have hsl:=Sz.len Tryz.underlying45 hz
  rw [ob39] at hsl
  simp only [List.length_map,List.length_range] at hsl
  have each:∀i,i < len→∃q:Ins,(∃va vt,(∃cs,W.cells? 0 (a.add (i * 8)) 8=some cs∧cs=insC q va vt)∧IntsV W q.2.2.2.2.1 va∧IntsV W q.2.2.2.2.2.1 vt)∧GxI q:=by
   intro i hi
   obtain⟨cs,h1,h2⟩:=hx i (by omega)
   rw [oc39] at h1
   obtain⟨y,va,vt,ec,k1,k2,k3⟩:=opn_ins h2 (Sz.elem Tryz.underlying45 hz (List.mem_map.2 ⟨i,by simpa using hi,rfl⟩))
   exact⟨y,⟨va,vt,⟨cs,h1,ec⟩,k1,k2⟩,k3⟩
  obtain⟨q,hq⟩:=Deep.choose_lt each
  refine⟨(List.range len).map q,⟨some a,m,by rw [e];simp,by simpa using hl,hm,?_⟩,fun y hy=> ?_,by simpa using few_of (b:=104) (by omega) hsl⟩
  ·by_cases h0:len=0
   ·exact .inl (by rw [h0];rfl)
   ·obtain⟨⟨va,vt,⟨cs,h1,h2⟩,_⟩,_⟩:=hq 0 (by omega)
    obtain⟨_,hcl,hcc⟩:=World.cells?_some h1
    have hc0:=(hcc 0 (by omega)).trans (List.getElem?_eq_getElem (by omega))
    rw [Deep.add_add,Nat.zero_mul] at hc0
    obtain⟨b,o,rfl,hb⟩:=spot_none hc0
    refine .inr ⟨b,o,rfl,fun i y hi=> ?_⟩
    have hi':i < len:=by
     have:=(List.getElem?_eq_some_iff.1 hi).1
     simpa using this
    have hy:q i=y:=by
     rw [List.getElem?_map,List.getElem?_range hi'] at hi
     exact Option.some.inj hi
    subst hy
    obtain⟨⟨va,vt,⟨cs,h1,h2⟩,k1,k2⟩,_⟩:=hq i hi'
    obtain⟨_,hcl,hcc⟩:=World.cells?_some h1
    refine⟨hb,va,vt,fun j t hj=> ?_,k1,k2⟩
    have hj8:j < 8:=(List.getElem?_eq_some_iff.1 hj).1
    have:=hcc j hj8
    rw [add2] at this
    rw [this,h2]
    exact hj
  ·obtain⟨i,hi,rfl⟩:=List.mem_map.1 hy
   exact(hq i (by simpa using hi)).2
theorem opn_blks {fuel:Nat} {v:Value} {x:DataW H × List MemPlace} (h:DataW.trod enc Tryz.prog W 0 (fun _=>true) true fuel 34 [v]=some x) (hz:Sz 34 x.1):∃l:List (List Ins),BlksR W l v∧(∀b∈l,∀y∈b,GxI y)∧Few l.length:=by
 rcases Deep.open_slice1 Tryz.underlying34 oc36 h with ⟨e,_⟩ | ⟨a,len,cap,m,n,V,D,Pl,e,_,hl,hm,hmm,rfl,hx⟩
 ·simp only [List.cons.injEq,and_true] at e
  exact⟨[],⟨none,0,e,Nat.le_refl _,Nat.zero_le _,.inl rfl⟩,fun _ h=>(by cases h),by unfold Few;simp⟩
 ·simp only [List.cons.injEq,and_true] at e
  rw [if_pos rfl] at hmm
  subst hmm
  have hsl:=Sz.len Tryz.underlying34 hz
  rw [ob36] at hsl
  simp only [List.length_map,List.length_range] at hsl
  have each:∀i,i < len→∃q:List Ins,(W.cell? (a.add i)=some (V i)∧BlkR W q (V i))∧∀y∈q,GxI y:=by
   intro i hi
   obtain⟨h1,h2⟩:=hx i (by omega)
   obtain⟨q,k1,k2,_⟩:=opn_blk h2 (Sz.elem Tryz.underlying34 hz (List.mem_map.2 ⟨i,by simpa using hi,rfl⟩))
   exact⟨q,⟨h1,k1⟩,k2⟩
  obtain⟨q,hq⟩:=Deep.choose_lt each
  refine⟨(List.range len).map q,⟨some a,m,by rw [e];simp,by simpa using hl,hm,?_⟩,fun y hy=> ?_,by simpa using few_of (b:=24) (by omega) hsl⟩
  ·by_cases h0:len=0
   ·exact .inl (by rw [h0];rfl)
   ·obtain⟨b,o,rfl,hb⟩:=spot_none (hq 0 (by omega)).1.1
    refine .inr ⟨b,o,rfl,hb,fun i y hi=> ?_⟩
    have hi':i < len:=by
     have:=(List.getElem?_eq_some_iff.1 hi).1
     simpa using this
    have hy:q i=y:=by
     rw [List.getElem?_map,List.getElem?_range hi'] at hi
     exact Option.some.inj hi
    subst hy
    obtain⟨k1,k2⟩:=(hq i hi').1
    rw [add_plain] at k1
    exact⟨V i,k1,k2⟩
  ·obtain⟨i,hi,rfl⟩:=List.mem_map.1 hy
   exact(hq i (by simpa using hi)).2
theorem opn_fun {fuel:Nat} {cs:List Value} {x:DataW H × List MemPlace} (h:DataW.trod enc Tryz.prog W 0 (fun _=>true) true fuel 36 cs=some x) (hz:Sz 36 x.1):
  ∃(y:Fun) (vp vb:Value),cs=funC y vp vb∧IntsV W y.2.1 vp∧BlksR W y.2.2.2.1 vb∧GxF y:=by
 obtain⟨xs,n,_,rfl,hl,hlen,hf⟩:=DataW.trod_struct Tryz.underlying36 h
 obtain⟨v0,v1,v2,v3,v4,rfl⟩:=five_l (hl.trans oc34)
 obtain⟨y0,g0⟩:=xs_at hlen (i:=0) (by decide)
 obtain⟨y1,g1⟩:=xs_at hlen (i:=1) (by decide)
 obtain⟨y2,g2⟩:=xs_at hlen (i:=2) (by decide)
 obtain⟨y3,g3⟩:=xs_at hlen (i:=3) (by decide)
 obtain⟨y4,g4⟩:=xs_at hlen (i:=4) (by decide)
 have f0:DataW.trod enc Tryz.prog W 0 (fun _=>true) true n 9 ([v0,v1,v2,v3,v4].take (Tryz.prog.cellsOf 9))=some y0:=(hf 0 _ rfl).trans g0
 have f1:DataW.trod enc Tryz.prog W 0 (fun _=>true) true n 33 ([v1,v2,v3,v4].take (Tryz.prog.cellsOf 33))=some y1:=(hf 1 _ rfl).trans g1
 have f2:DataW.trod enc Tryz.prog W 0 (fun _=>true) true n 3 ([v2,v3,v4].take (Tryz.prog.cellsOf 3))=some y2:=(hf 2 _ rfl).trans g2
 have f3:DataW.trod enc Tryz.prog W 0 (fun _=>true) true n 34 ([v3,v4].take (Tryz.prog.cellsOf 34))=some y3:=(hf 3 _ rfl).trans g3
 have f4:DataW.trod enc Tryz.prog W 0 (fun _=>true) true n 3 ([v4].take (Tryz.prog.cellsOf 3))=some y4:=(hf 4 _ rfl).trans g4
 rw [oc9] at f0
 rw [oc31] at f1
 rw [oc3] at f2 f4
 rw [oc32] at f3
 obtain⟨nm,rfl,hnm⟩:=opn_str f0 (Sz.field Tryz.underlying36 hz (i:=0) rfl (by rw [List.getElem?_map,g0];rfl))
 obtain⟨ps,hp,_,hpl⟩:=opn_ints f1 (Sz.field Tryz.underlying36 hz (i:=1) rfl (by rw [List.getElem?_map,g1];rfl))
 obtain⟨rt,rfl,_⟩:=opn_int f2
 obtain⟨bl,hb,hbg,hbl⟩:=opn_blks f3 (Sz.field Tryz.underlying36 hz (i:=3) rfl (by rw [List.getElem?_map,g3];rfl))
 obtain⟨pl,rfl,_⟩:=opn_int f4
 exact⟨(nm,ps,rt,bl,pl),v1,v3,rfl,hp,hb,hnm,hpl,hbl,hbg⟩
theorem opn_funs {fuel:Nat} {v:Value} {x:DataW H × List MemPlace} (h:DataW.trod enc Tryz.prog W 0 (fun _=>true) true fuel 22 [v]=some x) (hz:Sz 22 x.1):∃l:List Fun,ProgR W l v∧(∀y∈l,GxF y)∧Few l.length:=by
 rcases Deep.open_slice Tryz.underlying22 h with ⟨e,_⟩ | ⟨a,len,cap,m,n,D,Pl,e,_,hl,hm,hmm,rfl,hx⟩
 ·simp only [List.cons.injEq,and_true] at e
  exact⟨[],⟨none,0,e,Nat.le_refl _,Nat.zero_le _,.inl rfl⟩,fun _ h=>(by cases h),by unfold Few;simp⟩
 ·simp only [List.cons.injEq,and_true] at e
  rw [if_pos rfl] at hmm
  subst hmm
  have hsl:=Sz.len Tryz.underlying22 hz
  rw [ob34] at hsl
  simp only [List.length_map,List.length_range] at hsl
  have each:∀i,i < len→∃q:Fun,(∃va vt,(∃cs,W.cells? 0 (a.add (i * 5)) 5=some cs∧cs=funC q va vt)∧IntsV W q.2.1 va∧BlksR W q.2.2.2.1 vt)∧GxF q:=by
   intro i hi
   obtain⟨cs,h1,h2⟩:=hx i (by omega)
   rw [oc34] at h1
   obtain⟨y,va,vt,ec,k1,k2,k3⟩:=opn_fun h2 (Sz.elem Tryz.underlying22 hz (List.mem_map.2 ⟨i,by simpa using hi,rfl⟩))
   exact⟨y,⟨va,vt,⟨cs,h1,ec⟩,k1,k2⟩,k3⟩
  obtain⟨q,hq⟩:=Deep.choose_lt each
  refine⟨(List.range len).map q,⟨some a,m,by rw [e];simp,by simpa using hl,hm,?_⟩,fun y hy=> ?_,by simpa using few_of (b:=80) (by omega) hsl⟩
  ·by_cases h0:len=0
   ·exact .inl (by rw [h0];rfl)
   ·obtain⟨⟨va,vt,⟨cs,h1,h2⟩,_⟩,_⟩:=hq 0 (by omega)
    obtain⟨_,hcl,hcc⟩:=World.cells?_some h1
    have hc0:=(hcc 0 (by omega)).trans (List.getElem?_eq_getElem (by omega))
    rw [Deep.add_add,Nat.zero_mul] at hc0
    obtain⟨b,o,rfl,hb⟩:=spot_none hc0
    refine .inr ⟨b,o,rfl,fun i y hi=> ?_⟩
    have hi':i < len:=by
     have:=(List.getElem?_eq_some_iff.1 hi).1
     simpa using this
    have hy:q i=y:=by
     rw [List.getElem?_map,List.getElem?_range hi'] at hi
     exact Option.some.inj hi
    subst hy
    obtain⟨⟨va,vt,⟨cs,h1,h2⟩,k1,k2⟩,_⟩:=hq i hi'
    obtain⟨_,hcl,hcc⟩:=World.cells?_some h1
    refine⟨hb,va,vt,fun j t hj=> ?_,k1,k2⟩
    have hj8:j < 5:=(List.getElem?_eq_some_iff.1 hj).1
    have:=hcc j hj8
    rw [add2] at this
    rw [this,h2]
    exact hj
  ·obtain⟨i,hi,rfl⟩:=List.mem_map.1 hy
   exact(hq i (by simpa using hi)).2
theorem opn_prog {r:Reach} {b0:Nat} {v:Value} {d:DataW H} {ps:List MemPlace} (hv:Value.okWide Tryz.prog W r b0 24 v) (h:DataW.Trod enc Tryz.prog W 0 (fun _=>true) true 24 v d ps) (hz:Sz 24 d):
  ∃(l:List Fun) (po:Option Addr) (c:Nat),v= .agg #[.slice po l.length c]∧ProgR W l (.slice po l.length c)∧(∀y∈l,GxF y)∧Few l.length:=by
 obtain⟨cs,rfl,hsz⟩:=okWide_struct Tryz.underlying24 hv
 obtain⟨fuel,hf⟩:=h
 obtain⟨xs,n,_,hx,hl,hlen,each⟩:=DataW.trod_struct Tryz.underlying24 hf
 have e1:cs.size=1:=hsz.trans oc24
 obtain⟨u,rfl⟩:∃u,cs= #[u]:=by
  obtain⟨l⟩:=cs
  match l,e1 with
  |[u],_=>exact⟨u,rfl⟩
 obtain⟨y0,g0⟩:=xs_at hlen (i:=0) (by decide)
 have f0:DataW.trod enc Tryz.prog W 0 (fun _=>true) true n 22 ([u].take (Tryz.prog.cellsOf 22))=some y0:=(each 0 _ rfl).trans g0
 rw [oc22] at f0
 have hd:d= .agg (xs.map (·.1)):=congrArg Prod.fst hx
 rw [hd] at hz
 obtain⟨l,k1,k2,k3⟩:=opn_funs f0 (Sz.field Tryz.underlying24 hz (i:=0) rfl (by rw [List.getElem?_map,g0];rfl))
 have k1':=k1
 obtain⟨po,c,rfl,_⟩:=k1
 exact⟨l,po,c,rfl,k1',k2,k3⟩
end
open Mix (Up)
theorem shapedGo_zero (N:Nat):∀(l:List (List Ins)) (k:Nat),(shapedGo N k l).1=0→∀b∈l,blkE N b=0:=by
 intro l
 induction l with
 |nil=>intro k _ b hb;cases hb
 |cons c l ih=>
  intro k h b hb
  by_cases e:blkE N c=0
  ·rw [shapedGo_next e] at h
   rcases List.mem_cons.1 hb with rfl | hb
   ·exact e
   ·exact ih _ h b hb
  ·rw [shapedGo_hit rfl e] at h
   exact absurd h e
theorem blkGo_zero (N n:Nat):∀(l:List Ins) (i:Nat),blkGo N n i l=0→∀(j:Nat) (x:Ins),l[j]? =some x→endsB x.1=decide (i+j+1=n)∧badI N x=false:=by
 intro l
 induction l with
 |nil=>intro i _ j x hx;simp at hx
 |cons y l ih=>
  intro i h j x hx
  by_cases e:endsB y.1=decide (i+1=n)
  ·cases hb:badI N y with
   |true=>rw [blkGo_bad e hb] at h;cases h
   |false=>
    rw [blkGo_next e hb] at h
    cases j with
    |zero=>simp at hx;subst hx;exact⟨e,hb⟩
    |succ j=>
     have:=ih (i+1) h j x (by simpa using hx)
     rw [show i+1+j+1=i+(j+1)+1 by omega] at this
     exact this
  ·rw [blkGo_end e] at h;cases h
theorem rpreds_any (f:Fun) (v:Value) (w:World) (hv:FunV w f v) (hF:Ful f):
  Calls Tryz.prog 78 #[v] w fun e w'=>∃u,e= .returned u∧Below w.heap.size w w'∧RowsV w' (predsF f) u:=by
 obtain⟨nm,ps,rt,bl,pl⟩:=f
 have hv2:=hv
 obtain⟨vp,vb,rfl,⟨ao,c,rfl,h1,_⟩,h2⟩:=hv
 obtain⟨bo,cb,rfl,_⟩:=h2
 exact(rpreds_try nm ps rt pl bl ao bo c cb w hv2 hF).mono fun e w' ⟨u,he,h,b⟩=>⟨u,he,b,h.read⟩
theorem places_read {w:World} {B g:Nat} {f:Fun} (h:RowAt w B 3 g f.2.2.2.1.length (ints (placesF f))):IntsV w (placesF f) (.slice (some ⟨g,0,none⟩) f.2.2.2.1.length f.2.2.2.1.length):=by
 have e:=placesF_len f
 rw [←e] at h ⊢
 exact ints_of h
end Go.Proofs.YtljkgcfnoegibaaGreatDoor
