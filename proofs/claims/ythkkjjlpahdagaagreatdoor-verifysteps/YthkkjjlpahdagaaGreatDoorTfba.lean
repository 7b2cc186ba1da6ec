/-
  A message without what its kind has: what the reference answers (R10.bare).
-/
import Derived.Test.YthkkjjlpahdagaaGreatDoorS03
import Derived.Test.YthkkjjlpahdagaaGreatDoorS02
set_option maxHeartbeats 4000000
namespace Go.Proofs.YthkkjjlpahdagaaGreatDoor.Ms
open Go Go.RowKit
set_option maxRecDepth 100000
def mC (k c:Int) (s:Sub) (r:Rep) (v:List UInt8) (wh:Int) (tg ow:List UInt8) (b:Blo) (ns:List Int) (vP vN:Value):List Value:=msgC ⟨k,c,s,r,v,wh,tg,ow,b,ns⟩ vP vN
def pre_sub (k:Int) (c:Int) (_s:Sub) (_r:Rep) (_v:List UInt8) (_wh:Int) (_tg:List UInt8) (_ow:List UInt8) (_b:Blo) (_ns:List Int) (_vP:Value) (_vN:Value):List Value:=([nu k,nu c])
def pos_sub (_k:Int) (_c:Int) (_s:Sub) (r:Rep) (v:List UInt8) (wh:Int) (tg:List UInt8) (ow:List UInt8) (b:Blo) (_ns:List Int) (vP:Value) (vN:Value):List Value:=(repC r vP++[st v]++[nu wh]++dg tg++dg ow++bloC b++[vN])
theorem mo_sub (k c:Int) (s:Sub) (r:Rep) (v:List UInt8) (wh:Int) (tg ow:List UInt8) (b:Blo) (ns:List Int) (vP vN:Value):mC k c s r v wh tg ow b ns vP vN=pre_sub k c s r v wh tg ow b ns vP vN++(subC s++pos_sub k c s r v wh tg ow b ns vP vN):=by simp [mC,msgC,pre_sub,pos_sub]
theorem sh_sub (k c:Int) (s:Sub) (r:Rep) (v:List UInt8) (wh:Int) (tg ow:List UInt8) (b:Blo) (ns:List Int) (vP vN:Value) (x:Sub):pre_sub k c s r v wh tg ow b ns vP vN++(subC x++pos_sub k c s r v wh tg ow b ns vP vN)=mC k c x r v wh tg ow b ns vP vN:=by simp [mC,msgC,pre_sub,pos_sub]
theorem ln_sub (k c:Int) (s:Sub) (r:Rep) (v:List UInt8) (wh:Int) (tg ow:List UInt8) (b:Blo) (ns:List Int) (vP vN:Value) (hw:(⟨k,c,s,r,v,wh,tg,ow,b,ns⟩:Msg).Wf):(pre_sub k c s r v wh tg ow b ns vP vN).length=2:=by
 have h1:(subC s).length=68:=subC_len hw.sub
 have h2:(repC r vP).length=103:=repC_len hw.rep vP
 have h3:(bloC b).length=35:=bloC_len hw.blob
 have h4:tg.length=32:=hw.tag
 have h5:ow.length=32:=hw.own
 simp [pre_sub]
def pre_rep (k:Int) (c:Int) (s:Sub) (_r:Rep) (_v:List UInt8) (_wh:Int) (_tg:List UInt8) (_ow:List UInt8) (_b:Blo) (_ns:List Int) (_vP:Value) (_vN:Value):List Value:=([nu k,nu c]++subC s)
def pos_rep (_k:Int) (_c:Int) (_s:Sub) (_r:Rep) (v:List UInt8) (wh:Int) (tg:List UInt8) (ow:List UInt8) (b:Blo) (_ns:List Int) (_vP:Value) (vN:Value):List Value:=([st v]++[nu wh]++dg tg++dg ow++bloC b++[vN])
theorem mo_rep (k c:Int) (s:Sub) (r:Rep) (v:List UInt8) (wh:Int) (tg ow:List UInt8) (b:Blo) (ns:List Int) (vP vN:Value):mC k c s r v wh tg ow b ns vP vN=pre_rep k c s r v wh tg ow b ns vP vN++(repC r vP++pos_rep k c s r v wh tg ow b ns vP vN):=by simp [mC,msgC,pre_rep,pos_rep]
theorem sh_rep (k c:Int) (s:Sub) (r:Rep) (v:List UInt8) (wh:Int) (tg ow:List UInt8) (b:Blo) (ns:List Int) (vP vN:Value) (x:Rep) (u:Value):pre_rep k c s r v wh tg ow b ns vP vN++(repC x u++pos_rep k c s r v wh tg ow b ns vP vN)=mC k c s x v wh tg ow b ns u vN:=by simp [mC,msgC,pre_rep,pos_rep]
theorem ln_rep (k c:Int) (s:Sub) (r:Rep) (v:List UInt8) (wh:Int) (tg ow:List UInt8) (b:Blo) (ns:List Int) (vP vN:Value) (hw:(⟨k,c,s,r,v,wh,tg,ow,b,ns⟩:Msg).Wf):(pre_rep k c s r v wh tg ow b ns vP vN).length=70:=by
 have h1:(subC s).length=68:=subC_len hw.sub
 have h2:(repC r vP).length=103:=repC_len hw.rep vP
 have h3:(bloC b).length=35:=bloC_len hw.blob
 have h4:tg.length=32:=hw.tag
 have h5:ow.length=32:=hw.own
 simp [pre_rep,h1]
def pre_view (k:Int) (c:Int) (s:Sub) (r:Rep) (_v:List UInt8) (_wh:Int) (_tg:List UInt8) (_ow:List UInt8) (_b:Blo) (_ns:List Int) (vP:Value) (_vN:Value):List Value:=([nu k,nu c]++subC s++repC r vP)
def pos_view (_k:Int) (_c:Int) (_s:Sub) (_r:Rep) (_v:List UInt8) (wh:Int) (tg:List UInt8) (ow:List UInt8) (b:Blo) (_ns:List Int) (_vP:Value) (vN:Value):List Value:=([nu wh]++dg tg++dg ow++bloC b++[vN])
theorem mo_view (k c:Int) (s:Sub) (r:Rep) (v:List UInt8) (wh:Int) (tg ow:List UInt8) (b:Blo) (ns:List Int) (vP vN:Value):mC k c s r v wh tg ow b ns vP vN=pre_view k c s r v wh tg ow b ns vP vN++([st v]++pos_view k c s r v wh tg ow b ns vP vN):=by simp [mC,msgC,pre_view,pos_view]
theorem sh_view (k c:Int) (s:Sub) (r:Rep) (v:List UInt8) (wh:Int) (tg ow:List UInt8) (b:Blo) (ns:List Int) (vP vN:Value) (x:List UInt8):pre_view k c s r v wh tg ow b ns vP vN++([st x]++pos_view k c s r v wh tg ow b ns vP vN)=mC k c s r x wh tg ow b ns vP vN:=by simp [mC,msgC,pre_view,pos_view]
theorem ln_view (k c:Int) (s:Sub) (r:Rep) (v:List UInt8) (wh:Int) (tg ow:List UInt8) (b:Blo) (ns:List Int) (vP vN:Value) (hw:(⟨k,c,s,r,v,wh,tg,ow,b,ns⟩:Msg).Wf):(pre_view k c s r v wh tg ow b ns vP vN).length=173:=by
 have h1:(subC s).length=68:=subC_len hw.sub
 have h2:(repC r vP).length=103:=repC_len hw.rep vP
 have h3:(bloC b).length=35:=bloC_len hw.blob
 have h4:tg.length=32:=hw.tag
 have h5:ow.length=32:=hw.own
 simp [pre_view,h1,h2]
def pre_who (k:Int) (c:Int) (s:Sub) (r:Rep) (v:List UInt8) (_wh:Int) (_tg:List UInt8) (_ow:List UInt8) (_b:Blo) (_ns:List Int) (vP:Value) (_vN:Value):List Value:=([nu k,nu c]++subC s++repC r vP++[st v])
def pos_who (_k:Int) (_c:Int) (_s:Sub) (_r:Rep) (_v:List UInt8) (_wh:Int) (tg:List UInt8) (ow:List UInt8) (b:Blo) (_ns:List Int) (_vP:Value) (vN:Value):List Value:=(dg tg++dg ow++bloC b++[vN])
theorem mo_who (k c:Int) (s:Sub) (r:Rep) (v:List UInt8) (wh:Int) (tg ow:List UInt8) (b:Blo) (ns:List Int) (vP vN:Value):mC k c s r v wh tg ow b ns vP vN=pre_who k c s r v wh tg ow b ns vP vN++([nu wh]++pos_who k c s r v wh tg ow b ns vP vN):=by simp [mC,msgC,pre_who,pos_who]
theorem sh_who (k c:Int) (s:Sub) (r:Rep) (v:List UInt8) (wh:Int) (tg ow:List UInt8) (b:Blo) (ns:List Int) (vP vN:Value) (x:Int):pre_who k c s r v wh tg ow b ns vP vN++([nu x]++pos_who k c s r v wh tg ow b ns vP vN)=mC k c s r v x tg ow b ns vP vN:=by simp [mC,msgC,pre_who,pos_who]
theorem ln_who (k c:Int) (s:Sub) (r:Rep) (v:List UInt8) (wh:Int) (tg ow:List UInt8) (b:Blo) (ns:List Int) (vP vN:Value) (hw:(⟨k,c,s,r,v,wh,tg,ow,b,ns⟩:Msg).Wf):(pre_who k c s r v wh tg ow b ns vP vN).length=174:=by
 have h1:(subC s).length=68:=subC_len hw.sub
 have h2:(repC r vP).length=103:=repC_len hw.rep vP
 have h3:(bloC b).length=35:=bloC_len hw.blob
 have h4:tg.length=32:=hw.tag
 have h5:ow.length=32:=hw.own
 simp [pre_who,h1,h2]
def pre_tag (k:Int) (c:Int) (s:Sub) (r:Rep) (v:List UInt8) (wh:Int) (_tg:List UInt8) (_ow:List UInt8) (_b:Blo) (_ns:List Int) (vP:Value) (_vN:Value):List Value:=([nu k,nu c]++subC s++repC r vP++[st v]++[nu wh])
def pos_tag (_k:Int) (_c:Int) (_s:Sub) (_r:Rep) (_v:List UInt8) (_wh:Int) (_tg:List UInt8) (ow:List UInt8) (b:Blo) (_ns:List Int) (_vP:Value) (vN:Value):List Value:=(dg ow++bloC b++[vN])
theorem mo_tag (k c:Int) (s:Sub) (r:Rep) (v:List UInt8) (wh:Int) (tg ow:List UInt8) (b:Blo) (ns:List Int) (vP vN:Value):mC k c s r v wh tg ow b ns vP vN=pre_tag k c s r v wh tg ow b ns vP vN++(dg tg++pos_tag k c s r v wh tg ow b ns vP vN):=by simp [mC,msgC,pre_tag,pos_tag]
theorem sh_tag (k c:Int) (s:Sub) (r:Rep) (v:List UInt8) (wh:Int) (tg ow:List UInt8) (b:Blo) (ns:List Int) (vP vN:Value) (x:List UInt8):pre_tag k c s r v wh tg ow b ns vP vN++(dg x++pos_tag k c s r v wh tg ow b ns vP vN)=mC k c s r v wh x ow b ns vP vN:=by simp [mC,msgC,pre_tag,pos_tag]
theorem ln_tag (k c:Int) (s:Sub) (r:Rep) (v:List UInt8) (wh:Int) (tg ow:List UInt8) (b:Blo) (ns:List Int) (vP vN:Value) (hw:(⟨k,c,s,r,v,wh,tg,ow,b,ns⟩:Msg).Wf):(pre_tag k c s r v wh tg ow b ns vP vN).length=175:=by
 have h1:(subC s).length=68:=subC_len hw.sub
 have h2:(repC r vP).length=103:=repC_len hw.rep vP
 have h3:(bloC b).length=35:=bloC_len hw.blob
 have h4:tg.length=32:=hw.tag
 have h5:ow.length=32:=hw.own
 simp [pre_tag,h1,h2]
def pre_own (k:Int) (c:Int) (s:Sub) (r:Rep) (v:List UInt8) (wh:Int) (tg:List UInt8) (_ow:List UInt8) (_b:Blo) (_ns:List Int) (vP:Value) (_vN:Value):List Value:=([nu k,nu c]++subC s++repC r vP++[st v]++[nu wh]++dg tg)
def pos_own (_k:Int) (_c:Int) (_s:Sub) (_r:Rep) (_v:List UInt8) (_wh:Int) (_tg:List UInt8) (_ow:List UInt8) (b:Blo) (_ns:List Int) (_vP:Value) (vN:Value):List Value:=(bloC b++[vN])
theorem mo_own (k c:Int) (s:Sub) (r:Rep) (v:List UInt8) (wh:Int) (tg ow:List UInt8) (b:Blo) (ns:List Int) (vP vN:Value):mC k c s r v wh tg ow b ns vP vN=pre_own k c s r v wh tg ow b ns vP vN++(dg ow++pos_own k c s r v wh tg ow b ns vP vN):=by simp [mC,msgC,pre_own,pos_own]
theorem sh_own (k c:Int) (s:Sub) (r:Rep) (v:List UInt8) (wh:Int) (tg ow:List UInt8) (b:Blo) (ns:List Int) (vP vN:Value) (x:List UInt8):pre_own k c s r v wh tg ow b ns vP vN++(dg x++pos_own k c s r v wh tg ow b ns vP vN)=mC k c s r v wh tg x b ns vP vN:=by simp [mC,msgC,pre_own,pos_own]
theorem ln_own (k c:Int) (s:Sub) (r:Rep) (v:List UInt8) (wh:Int) (tg ow:List UInt8) (b:Blo) (ns:List Int) (vP vN:Value) (hw:(⟨k,c,s,r,v,wh,tg,ow,b,ns⟩:Msg).Wf):(pre_own k c s r v wh tg ow b ns vP vN).length=207:=by
 have h1:(subC s).length=68:=subC_len hw.sub
 have h2:(repC r vP).length=103:=repC_len hw.rep vP
 have h3:(bloC b).length=35:=bloC_len hw.blob
 have h4:tg.length=32:=hw.tag
 have h5:ow.length=32:=hw.own
 simp [pre_own,dg_len,h1,h2,h4]
def pre_blob (k:Int) (c:Int) (s:Sub) (r:Rep) (v:List UInt8) (wh:Int) (tg:List UInt8) (ow:List UInt8) (_b:Blo) (_ns:List Int) (vP:Value) (_vN:Value):List Value:=([nu k,nu c]++subC s++repC r vP++[st v]++[nu wh]++dg tg++dg ow)
def pos_blob (_k:Int) (_c:Int) (_s:Sub) (_r:Rep) (_v:List UInt8) (_wh:Int) (_tg:List UInt8) (_ow:List UInt8) (_b:Blo) (_ns:List Int) (_vP:Value) (vN:Value):List Value:=([vN])
theorem mo_blob (k c:Int) (s:Sub) (r:Rep) (v:List UInt8) (wh:Int) (tg ow:List UInt8) (b:Blo) (ns:List Int) (vP vN:Value):mC k c s r v wh tg ow b ns vP vN=pre_blob k c s r v wh tg ow b ns vP vN++(bloC b++pos_blob k c s r v wh tg ow b ns vP vN):=by simp [mC,msgC,pre_blob,pos_blob]
theorem sh_blob (k c:Int) (s:Sub) (r:Rep) (v:List UInt8) (wh:Int) (tg ow:List UInt8) (b:Blo) (ns:List Int) (vP vN:Value) (x:Blo):pre_blob k c s r v wh tg ow b ns vP vN++(bloC x++pos_blob k c s r v wh tg ow b ns vP vN)=mC k c s r v wh tg ow x ns vP vN:=by simp [mC,msgC,pre_blob,pos_blob]
theorem ln_blob (k c:Int) (s:Sub) (r:Rep) (v:List UInt8) (wh:Int) (tg ow:List UInt8) (b:Blo) (ns:List Int) (vP vN:Value) (hw:(⟨k,c,s,r,v,wh,tg,ow,b,ns⟩:Msg).Wf):(pre_blob k c s r v wh tg ow b ns vP vN).length=239:=by
 have h1:(subC s).length=68:=subC_len hw.sub
 have h2:(repC r vP).length=103:=repC_len hw.rep vP
 have h3:(bloC b).length=35:=bloC_len hw.blob
 have h4:tg.length=32:=hw.tag
 have h5:ow.length=32:=hw.own
 simp [pre_blob,dg_len,h1,h2,h4,h5]
def pre_nums (k:Int) (c:Int) (s:Sub) (r:Rep) (v:List UInt8) (wh:Int) (tg:List UInt8) (ow:List UInt8) (b:Blo) (_ns:List Int) (vP:Value) (_vN:Value):List Value:=([nu k,nu c]++subC s++repC r vP++[st v]++[nu wh]++dg tg++dg ow++bloC b)
def pos_nums (_k:Int) (_c:Int) (_s:Sub) (_r:Rep) (_v:List UInt8) (_wh:Int) (_tg:List UInt8) (_ow:List UInt8) (_b:Blo) (_ns:List Int) (_vP:Value) (_vN:Value):List Value:=[]
theorem mo_nums (k c:Int) (s:Sub) (r:Rep) (v:List UInt8) (wh:Int) (tg ow:List UInt8) (b:Blo) (ns:List Int) (vP vN:Value):mC k c s r v wh tg ow b ns vP vN=pre_nums k c s r v wh tg ow b ns vP vN++([vN]++pos_nums k c s r v wh tg ow b ns vP vN):=by simp [mC,msgC,pre_nums,pos_nums]
theorem sh_nums (k c:Int) (s:Sub) (r:Rep) (v:List UInt8) (wh:Int) (tg ow:List UInt8) (b:Blo) (ns:List Int) (vP vN:Value) (u:Value) (x:List Int):pre_nums k c s r v wh tg ow b ns vP vN++([u]++pos_nums k c s r v wh tg ow b ns vP vN)=mC k c s r v wh tg ow b x vP u:=by simp [mC,msgC,pre_nums,pos_nums]
theorem ln_nums (k c:Int) (s:Sub) (r:Rep) (v:List UInt8) (wh:Int) (tg ow:List UInt8) (b:Blo) (ns:List Int) (vP vN:Value) (hw:(⟨k,c,s,r,v,wh,tg,ow,b,ns⟩:Msg).Wf):(pre_nums k c s r v wh tg ow b ns vP vN).length=274:=by
 have h1:(subC s).length=68:=subC_len hw.sub
 have h2:(repC r vP).length=103:=repC_len hw.rep vP
 have h3:(bloC b).length=35:=bloC_len hw.blob
 have h4:tg.length=32:=hw.tag
 have h5:ow.length=32:=hw.own
 simp [pre_nums,dg_len,h1,h2,h3,h4,h5]
theorem mC_len {k c:Int} {s:Sub} {r:Rep} {v:List UInt8} {wh:Int} {tg ow:List UInt8} {b:Blo} {ns:List Int} (hw:(⟨k,c,s,r,v,wh,tg,ow,b,ns⟩:Msg).Wf) (vP vN:Value):(mC k c s r v wh tg ow b ns vP vN).length=275:=msgC_len hw vP vN
theorem mC_one {k c:Int} {s:Sub} {r:Rep} {v:List UInt8} {wh:Int} {tg ow:List UInt8} {b:Blo} {ns:List Int} {vP vN:Value} (h1:vP.oneCell' = true) (h2:vN.oneCell' = true):∀ x ∈ mC k c s r v wh tg ow b ns vP vN,x.oneCell' = true:=one_msg _ vP vN h1 h2
theorem row_nilB {w:World} {g:Nat} {L:List Value} {t:TypeId} (h:w.heap[g]? = some (.cells L.toArray t)):w.heap[g]? = some (.cells ([]++(L++[])).toArray t):=by simpa using h
theorem bare_1 {w:World} {c:Int} {s:Sub} {r:Rep} {v:List UInt8} {wh:Int} {tg ow:List UInt8} {b:Blo} {ns:List Int} {vP vN:Value} (hw:(⟨1,c,s,r,v,wh,tg,ow,b,ns⟩:Msg).Wf) (h1:vP.oneCell' = true) (h2:vN.oneCell' = true) :
  Calls Tryz.prog 74 #[.agg (mC 1 c s r v wh tg ow b ns vP vN).toArray] w fun e w'=>e = .returned (.agg (mC 1 c zeroS r v wh tg ow b ns vP vN).toArray)∧Below w.heap.size w w':=by
 have B0:=hid (below_two (below_a1 w (.cells (mC 1 c s r v wh tg ow b ns vP vN).toArray 102)) (below_a1 _ (.cells (msgC (zeroM 0 0) (.slice none 0 0) (.slice none 0 0)).toArray 102)))
 have T0:=hid (row_kept (top_obj w (.cells (mC 1 c s r v wh tg ow b ns vP vN).toArray 102)) (below_a1 _ (.cells (msgC (zeroM 0 0) (.slice none 0 0) (.slice none 0 0)).toArray 102)))
 have Q0:=hid (top_obj (w.alloc (.cells (mC 1 c s r v wh tg ow b ns vP vN).toArray 102)) (.cells (msgC (zeroM 0 0) (.slice none 0 0) (.slice none 0 0)).toArray 102))
 have ck:=mrow_kind T0.out hw
 have ZM:=zeroMsg
 have HW:=hid hw
 have hs:(w.alloc (.cells (mC 1 c s r v wh tg ow b ns vP vN).toArray 102)).heap.size=w.heap.size + 1:=Array.size_push _
 rw [hs] at Q0
 have hln:(msgC (zeroM 0 0) (.slice none 0 0) (.slice none 0 0)).length=275:=msgC_len (zeroM_wf 0 0) _ _
 obtain ⟨Z,hZ⟩:∃ Z,Z=msgC (zeroM 0 0) (.slice none 0 0) (.slice none 0 0):=⟨_,rfl⟩
 rw [← hZ] at B0 T0 Q0 ck ZM hln
 clear hZ hw
 obtain ⟨L,hL⟩:∃ L,L=mC 1 c s r v wh tg ow b ns vP vN:=⟨_,rfl⟩
 rw [← hL] at B0 T0 Q0 ck hs ⊢
 have HL:=hid hL
 clear hL
 go_enter Tryz.func74,Tryz.ntmps74
 go_upto_region 1 with (first | ((with_reducible refine wl_alloc 102 ?_ ?_ Z.toArray ZM ?_);exact rfl;exact rfl))
 generalize (w.alloc (.cells L.toArray 102)).alloc (.cells Z.toArray 102)=W0 at *
 clear hs
 have Q0:Hid (W0.heap[w.heap.size + 1]? = some (.cells ([]++(Z++[])).toArray 102)):=row_nilB Q0.out
 generalize hg1:w.heap.size + 1=g1 at *
 have hgg:w.heap.size ≠ g1:=by omega
 have hge:w.heap.size ≤ g1:=by omega
 rw [HL.out,mo_sub] at T0
 have HW0:=HW
 have WFS1:Hid ((⟨1,c,zeroS,r,v,wh,tg,ow,b,ns⟩:Msg).Wf):=(fun h=>⟨wfZeroS,h.rep,h.tag,h.own,h.blob⟩:(⟨1,c,s,r,v,wh,tg,ow,b,ns⟩:Msg).Wf→_) HW.out
 have ZF:(Tryz.prog.info? 102).map (·.size)=some (mC 1 c zeroS r v wh tg ow b ns vP vN).length:=by rw [mC_len WFS1.out];exact sizeMsg
 have LF:Z.length=(mC 1 c zeroS r v wh tg ow b ns vP vN).length:=by rw [mC_len WFS1.out];exact hln
 clear HW0
 go_wp2_with (first
  | ((with_reducible refine wl_build 39 ?_ ?_ (subC zeroS).toArray (build_sub _) ?_);exact rfl;exact rfl)
  | ((with_reducible refine wl_put 39 (.tmp 12) (.tmp 11) ?_ ?_ w.heap.size 2 ?_ ?_ (pre_sub 1 c s r v wh tg ow b ns vP vN) (subC zeroS) (subC s) (pos_sub 1 c s r v wh tg ow b ns vP vN) ?_ 102 T0.out (ln_sub 1 c s r v wh tg ow b ns vP vN HW.out) (by rw [subC_len wfZeroS];exact subC_len HW.out.sub) (one_sub _) (by rw [subC_len wfZeroS];exact sizeSub) ?_);exact rfl;exact rfl;exact rfl;exact rfl;exact rfl;intro W1 r1 b1;rw [sh_sub 1 c s r v wh tg ow b ns vP vN zeroS] at r1;have HW:Hid ((⟨1,c,zeroS,r,v,wh,tg,ow,b,ns⟩:Msg).Wf):=WFS1;have T1:=hid r1;have B1:=hid (b1.below B0.out (Nat.le_refl _));have Q1:=hid (b1.row Q0.out hgg.symm);have S1:=hid (row_seg (off:=0) (A:=[]) (cs:=mC 1 c zeroS r v wh tg ow b ns vP vN) (C:=[]) T1.out (by simp) rfl);clear r1 b1)
  | ((with_reducible refine wl_load 102 (.tmp 1) ?_ w.heap.size 0 ?_ ?_ (mC 1 c zeroS r v wh tg ow b ns vP vN) _ S1.out Tryz.underlying102 ?_ ZF ?_);iterate 4 exact rfl)
  | ((with_reducible refine wl_put 102 (.tmp 2) (.tmp 44) ?_ ?_ g1 0 ?_ ?_ [] (mC 1 c zeroS r v wh tg ow b ns vP vN) Z [] ?_ 102 Q1.out rfl LF (mC_one h1 h2) ZF ?_);exact rfl;exact rfl;exact rfl;exact rfl;exact rfl;intro WF rF bF))
 have rG:WF.heap[g1]? = some (.cells (mC 1 c zeroS r v wh tg ow b ns vP vN).toArray 102):=by simpa using rF
 refine bodyPost_ret_by (results_row (fn:=Tryz.f74) (p:=2) (ty:=102) (by kernel_rfl) _ _ g1 102 (mC 1 c zeroS r v wh tg ow b ns vP vN).toArray (0,0) _ rfl rG Tryz.underlying102 rfl (by rw [List.size_toArray];exact ZF)) rfl ?_
 exact ⟨rfl,bF.below B1.out hge⟩
theorem bare_2 {w:World} {c:Int} {s:Sub} {r:Rep} {v:List UInt8} {wh:Int} {tg ow:List UInt8} {b:Blo} {ns:List Int} {vP vN:Value} (hw:(⟨2,c,s,r,v,wh,tg,ow,b,ns⟩:Msg).Wf) (_h1:vP.oneCell' = true) (h2:vN.oneCell' = true) :
  Calls Tryz.prog 74 #[.agg (mC 2 c s r v wh tg ow b ns vP vN).toArray] w fun e w'=>e = .returned (.agg (mC 2 c s zeroR v wh tg ow b ns (.slice none 0 0) vN).toArray)∧Below w.heap.size w w':=by
 have B0:=hid (below_two (below_a1 w (.cells (mC 2 c s r v wh tg ow b ns vP vN).toArray 102)) (below_a1 _ (.cells (msgC (zeroM 0 0) (.slice none 0 0) (.slice none 0 0)).toArray 102)))
 have T0:=hid (row_kept (top_obj w (.cells (mC 2 c s r v wh tg ow b ns vP vN).toArray 102)) (below_a1 _ (.cells (msgC (zeroM 0 0) (.slice none 0 0) (.slice none 0 0)).toArray 102)))
 have Q0:=hid (top_obj (w.alloc (.cells (mC 2 c s r v wh tg ow b ns vP vN).toArray 102)) (.cells (msgC (zeroM 0 0) (.slice none 0 0) (.slice none 0 0)).toArray 102))
 have ck:=mrow_kind T0.out hw
 have ZM:=zeroMsg
 have HW:=hid hw
 have hs:(w.alloc (.cells (mC 2 c s r v wh tg ow b ns vP vN).toArray 102)).heap.size=w.heap.size + 1:=Array.size_push _
 rw [hs] at Q0
 have hln:(msgC (zeroM 0 0) (.slice none 0 0) (.slice none 0 0)).length=275:=msgC_len (zeroM_wf 0 0) _ _
 obtain ⟨Z,hZ⟩:∃ Z,Z=msgC (zeroM 0 0) (.slice none 0 0) (.slice none 0 0):=⟨_,rfl⟩
 rw [← hZ] at B0 T0 Q0 ck ZM hln
 clear hZ hw
 obtain ⟨L,hL⟩:∃ L,L=mC 2 c s r v wh tg ow b ns vP vN:=⟨_,rfl⟩
 rw [← hL] at B0 T0 Q0 ck hs ⊢
 have HL:=hid hL
 clear hL
 go_enter Tryz.func74,Tryz.ntmps74
 go_upto_region 1 with (first | ((with_reducible refine wl_alloc 102 ?_ ?_ Z.toArray ZM ?_);exact rfl;exact rfl))
 generalize (w.alloc (.cells L.toArray 102)).alloc (.cells Z.toArray 102)=W0 at *
 clear hs
 have Q0:Hid (W0.heap[w.heap.size + 1]? = some (.cells ([]++(Z++[])).toArray 102)):=row_nilB Q0.out
 generalize hg1:w.heap.size + 1=g1 at *
 have hgg:w.heap.size ≠ g1:=by omega
 have hge:w.heap.size ≤ g1:=by omega
 rw [HL.out,mo_rep] at T0
 have HW0:=HW
 have WFS1:Hid ((⟨2,c,s,zeroR,v,wh,tg,ow,b,ns⟩:Msg).Wf):=(fun h=>⟨h.sub,wfZeroR,h.tag,h.own,h.blob⟩:(⟨2,c,s,r,v,wh,tg,ow,b,ns⟩:Msg).Wf→_) HW.out
 have ZF:(Tryz.prog.info? 102).map (·.size)=some (mC 2 c s zeroR v wh tg ow b ns (.slice none 0 0) vN).length:=by rw [mC_len WFS1.out];exact sizeMsg
 have LF:Z.length=(mC 2 c s zeroR v wh tg ow b ns (.slice none 0 0) vN).length:=by rw [mC_len WFS1.out];exact hln
 clear HW0
 go_wp2_with (first
  | ((with_reducible refine wl_build 42 ?_ ?_ (repC zeroR (.slice none 0 0)).toArray (build_rep _) ?_);exact rfl;exact rfl)
  | ((with_reducible refine wl_put 42 (.tmp 16) (.tmp 15) ?_ ?_ w.heap.size 70 ?_ ?_ (pre_rep 2 c s r v wh tg ow b ns vP vN) (repC zeroR (.slice none 0 0)) (repC r vP) (pos_rep 2 c s r v wh tg ow b ns vP vN) ?_ 102 T0.out (ln_rep 2 c s r v wh tg ow b ns vP vN HW.out) (by rw [repC_len wfZeroR];exact repC_len HW.out.rep _) (one_rep _ _ rfl) (by rw [repC_len wfZeroR];exact sizeRep) ?_);exact rfl;exact rfl;exact rfl;exact rfl;exact rfl;intro W1 r1 b1;rw [sh_rep 2 c s r v wh tg ow b ns vP vN zeroR (.slice none 0 0)] at r1;have HW:Hid ((⟨2,c,s,zeroR,v,wh,tg,ow,b,ns⟩:Msg).Wf):=WFS1;have T1:=hid r1;have B1:=hid (b1.below B0.out (Nat.le_refl _));have Q1:=hid (b1.row Q0.out hgg.symm);have S1:=hid (row_seg (off:=0) (A:=[]) (cs:=mC 2 c s zeroR v wh tg ow b ns (.slice none 0 0) vN) (C:=[]) T1.out (by simp) rfl);clear r1 b1)
  | ((with_reducible refine wl_load 102 (.tmp 1) ?_ w.heap.size 0 ?_ ?_ (mC 2 c s zeroR v wh tg ow b ns (.slice none 0 0) vN) _ S1.out Tryz.underlying102 ?_ ZF ?_);iterate 4 exact rfl)
  | ((with_reducible refine wl_put 102 (.tmp 2) (.tmp 44) ?_ ?_ g1 0 ?_ ?_ [] (mC 2 c s zeroR v wh tg ow b ns (.slice none 0 0) vN) Z [] ?_ 102 Q1.out rfl LF (mC_one rfl h2) ZF ?_);exact rfl;exact rfl;exact rfl;exact rfl;exact rfl;intro WF rF bF))
 have rG:WF.heap[g1]? = some (.cells (mC 2 c s zeroR v wh tg ow b ns (.slice none 0 0) vN).toArray 102):=by simpa using rF
 refine bodyPost_ret_by (results_row (fn:=Tryz.f74) (p:=2) (ty:=102) (by kernel_rfl) _ _ g1 102 (mC 2 c s zeroR v wh tg ow b ns (.slice none 0 0) vN).toArray (0,0) _ rfl rG Tryz.underlying102 rfl (by rw [List.size_toArray];exact ZF)) rfl ?_
 exact ⟨rfl,bF.below B1.out hge⟩
theorem bare_3 {w:World} {c:Int} {s:Sub} {r:Rep} {v:List UInt8} {wh:Int} {tg ow:List UInt8} {b:Blo} {ns:List Int} {vP vN:Value} (hw:(⟨3,c,s,r,v,wh,tg,ow,b,ns⟩:Msg).Wf) (h1:vP.oneCell' = true) (h2:vN.oneCell' = true) :
  Calls Tryz.prog 74 #[.agg (mC 3 c s r v wh tg ow b ns vP vN).toArray] w fun e w'=>e = .returned (.agg (mC 3 c s r [] wh zeroD ow b ns vP vN).toArray)∧Below w.heap.size w w':=by
 have B0:=hid (below_two (below_a1 w (.cells (mC 3 c s r v wh tg ow b ns vP vN).toArray 102)) (below_a1 _ (.cells (msgC (zeroM 0 0) (.slice none 0 0) (.slice none 0 0)).toArray 102)))
 have T0:=hid (row_kept (top_obj w (.cells (mC 3 c s r v wh tg ow b ns vP vN).toArray 102)) (below_a1 _ (.cells (msgC (zeroM 0 0) (.slice none 0 0) (.slice none 0 0)).toArray 102)))
 have Q0:=hid (top_obj (w.alloc (.cells (mC 3 c s r v wh tg ow b ns vP vN).toArray 102)) (.cells (msgC (zeroM 0 0) (.slice none 0 0) (.slice none 0 0)).toArray 102))
 have ck:=mrow_kind T0.out hw
 have ZM:=zeroMsg
 have HW:=hid hw
 have hs:(w.alloc (.cells (mC 3 c s r v wh tg ow b ns vP vN).toArray 102)).heap.size=w.heap.size + 1:=Array.size_push _
 rw [hs] at Q0
 have hln:(msgC (zeroM 0 0) (.slice none 0 0) (.slice none 0 0)).length=275:=msgC_len (zeroM_wf 0 0) _ _
 obtain ⟨Z,hZ⟩:∃ Z,Z=msgC (zeroM 0 0) (.slice none 0 0) (.slice none 0 0):=⟨_,rfl⟩
 rw [← hZ] at B0 T0 Q0 ck ZM hln
 clear hZ hw
 obtain ⟨L,hL⟩:∃ L,L=mC 3 c s r v wh tg ow b ns vP vN:=⟨_,rfl⟩
 rw [← hL] at B0 T0 Q0 ck hs ⊢
 have HL:=hid hL
 clear hL
 go_enter Tryz.func74,Tryz.ntmps74
 go_upto_region 1 with (first | ((with_reducible refine wl_alloc 102 ?_ ?_ Z.toArray ZM ?_);exact rfl;exact rfl))
 generalize (w.alloc (.cells L.toArray 102)).alloc (.cells Z.toArray 102)=W0 at *
 clear hs
 have Q0:Hid (W0.heap[w.heap.size + 1]? = some (.cells ([]++(Z++[])).toArray 102)):=row_nilB Q0.out
 generalize hg1:w.heap.size + 1=g1 at *
 have hgg:w.heap.size ≠ g1:=by omega
 have hge:w.heap.size ≤ g1:=by omega
 rw [HL.out,mo_view] at T0
 have HW0:=HW
 have WFS1:Hid ((⟨3,c,s,r,[],wh,tg,ow,b,ns⟩:Msg).Wf):=(fun h=>⟨h.sub,h.rep,h.tag,h.own,h.blob⟩:(⟨3,c,s,r,v,wh,tg,ow,b,ns⟩:Msg).Wf→_) HW.out
 have WFS2:Hid ((⟨3,c,s,r,[],wh,zeroD,ow,b,ns⟩:Msg).Wf):=(fun h=>⟨h.sub,h.rep,rfl,h.own,h.blob⟩:(⟨3,c,s,r,[],wh,tg,ow,b,ns⟩:Msg).Wf→_) WFS1.out
 have ZF:(Tryz.prog.info? 102).map (·.size)=some (mC 3 c s r [] wh zeroD ow b ns vP vN).length:=by rw [mC_len WFS2.out];exact sizeMsg
 have LF:Z.length=(mC 3 c s r [] wh zeroD ow b ns vP vN).length:=by rw [mC_len WFS2.out];exact hln
 clear HW0
 go_wp2_with (first
  | ((with_reducible refine wl_put1 9 (.tmp 19) (.const (st [])) ?_ ?_ w.heap.size 173 ?_ ?_ (pre_view 3 c s r v wh tg ow b ns vP vN) (pos_view 3 c s r v wh tg ow b ns vP vN) (st v) (st []) ?_ 102 T0.out (ln_view 3 c s r v wh tg ow b ns vP vN HW.out) ?_ ?_ ?_);exact rfl;exact rfl;exact rfl;exact rfl;exact rfl;exact rfl;kernel_rfl;intro W1 r1 b1;rw [sh_view 3 c s r v wh tg ow b ns vP vN []] at r1;have HW:Hid ((⟨3,c,s,r,[],wh,tg,ow,b,ns⟩:Msg).Wf):=WFS1;rw [mo_tag] at r1;have T1:=hid r1;have B1:=hid (b1.below B0.out (Nat.le_refl _));have Q1:=hid (b1.row Q0.out hgg.symm);clear r1 b1)
  | ((with_reducible refine wl_build 23 ?_ ?_ (dg zeroD).toArray (build_dig _) ?_);exact rfl;exact rfl)
  | ((with_reducible refine wl_put 23 (.tmp 21) (.tmp 20) ?_ ?_ w.heap.size 175 ?_ ?_ (pre_tag 3 c s r [] wh tg ow b ns vP vN) (dg zeroD) (dg tg) (pos_tag 3 c s r [] wh tg ow b ns vP vN) ?_ 102 T1.out (ln_tag 3 c s r [] wh tg ow b ns vP vN HW.out) (by rw [dg_len,dg_len,zeroD_len];exact HW.out.tag) (one_dg _) (by rw [dg_len,zeroD_len];exact sizeDig) ?_);exact rfl;exact rfl;exact rfl;exact rfl;exact rfl;intro W2 r2 b2;rw [sh_tag 3 c s r [] wh tg ow b ns vP vN zeroD] at r2;have HW:Hid ((⟨3,c,s,r,[],wh,zeroD,ow,b,ns⟩:Msg).Wf):=WFS2;have T2:=hid r2;have B2:=hid (b2.below B1.out (Nat.le_refl _));have Q2:=hid (b2.row Q1.out hgg.symm);have S2:=hid (row_seg (off:=0) (A:=[]) (cs:=mC 3 c s r [] wh zeroD ow b ns vP vN) (C:=[]) T2.out (by simp) rfl);clear r2 b2)
  | ((with_reducible refine wl_load 102 (.tmp 1) ?_ w.heap.size 0 ?_ ?_ (mC 3 c s r [] wh zeroD ow b ns vP vN) _ S2.out Tryz.underlying102 ?_ ZF ?_);iterate 4 exact rfl)
  | ((with_reducible refine wl_put 102 (.tmp 2) (.tmp 44) ?_ ?_ g1 0 ?_ ?_ [] (mC 3 c s r [] wh zeroD ow b ns vP vN) Z [] ?_ 102 Q2.out rfl LF (mC_one h1 h2) ZF ?_);exact rfl;exact rfl;exact rfl;exact rfl;exact rfl;intro WF rF bF))
 have rG:WF.heap[g1]? = some (.cells (mC 3 c s r [] wh zeroD ow b ns vP vN).toArray 102):=by simpa using rF
 refine bodyPost_ret_by (results_row (fn:=Tryz.f74) (p:=2) (ty:=102) (by kernel_rfl) _ _ g1 102 (mC 3 c s r [] wh zeroD ow b ns vP vN).toArray (0,0) _ rfl rG Tryz.underlying102 rfl (by rw [List.size_toArray];exact ZF)) rfl ?_
 exact ⟨rfl,bF.below B2.out hge⟩
theorem bare_4 {w:World} {c:Int} {s:Sub} {r:Rep} {v:List UInt8} {wh:Int} {tg ow:List UInt8} {b:Blo} {ns:List Int} {vP vN:Value} (hw:(⟨4,c,s,r,v,wh,tg,ow,b,ns⟩:Msg).Wf) (h1:vP.oneCell' = true) (h2:vN.oneCell' = true) :
  Calls Tryz.prog 74 #[.agg (mC 4 c s r v wh tg ow b ns vP vN).toArray] w fun e w'=>e = .returned (.agg (mC 4 c s r v wh tg ow zeroB ns vP vN).toArray)∧Below w.heap.size w w':=by
 have B0:=hid (below_two (below_a1 w (.cells (mC 4 c s r v wh tg ow b ns vP vN).toArray 102)) (below_a1 _ (.cells (msgC (zeroM 0 0) (.slice none 0 0) (.slice none 0 0)).toArray 102)))
 have T0:=hid (row_kept (top_obj w (.cells (mC 4 c s r v wh tg ow b ns vP vN).toArray 102)) (below_a1 _ (.cells (msgC (zeroM 0 0) (.slice none 0 0) (.slice none 0 0)).toArray 102)))
 have Q0:=hid (top_obj (w.alloc (.cells (mC 4 c s r v wh tg ow b ns vP vN).toArray 102)) (.cells (msgC (zeroM 0 0) (.slice none 0 0) (.slice none 0 0)).toArray 102))
 have ck:=mrow_kind T0.out hw
 have ZM:=zeroMsg
 have HW:=hid hw
 have hs:(w.alloc (.cells (mC 4 c s r v wh tg ow b ns vP vN).toArray 102)).heap.size=w.heap.size + 1:=Array.size_push _
 rw [hs] at Q0
 have hln:(msgC (zeroM 0 0) (.slice none 0 0) (.slice none 0 0)).length=275:=msgC_len (zeroM_wf 0 0) _ _
 obtain ⟨Z,hZ⟩:∃ Z,Z=msgC (zeroM 0 0) (.slice none 0 0) (.slice none 0 0):=⟨_,rfl⟩
 rw [← hZ] at B0 T0 Q0 ck ZM hln
 clear hZ hw
 obtain ⟨L,hL⟩:∃ L,L=mC 4 c s r v wh tg ow b ns vP vN:=⟨_,rfl⟩
 rw [← hL] at B0 T0 Q0 ck hs ⊢
 have HL:=hid hL
 clear hL
 go_enter Tryz.func74,Tryz.ntmps74
 go_upto_region 1 with (first | ((with_reducible refine wl_alloc 102 ?_ ?_ Z.toArray ZM ?_);exact rfl;exact rfl))
 generalize (w.alloc (.cells L.toArray 102)).alloc (.cells Z.toArray 102)=W0 at *
 clear hs
 have Q0:Hid (W0.heap[w.heap.size + 1]? = some (.cells ([]++(Z++[])).toArray 102)):=row_nilB Q0.out
 generalize hg1:w.heap.size + 1=g1 at *
 have hgg:w.heap.size ≠ g1:=by omega
 have hge:w.heap.size ≤ g1:=by omega
 rw [HL.out,mo_blob] at T0
 have HW0:=HW
 have WFS1:Hid ((⟨4,c,s,r,v,wh,tg,ow,zeroB,ns⟩:Msg).Wf):=(fun h=>⟨h.sub,h.rep,h.tag,h.own,wfZeroB⟩:(⟨4,c,s,r,v,wh,tg,ow,b,ns⟩:Msg).Wf→_) HW.out
 have ZF:(Tryz.prog.info? 102).map (·.size)=some (mC 4 c s r v wh tg ow zeroB ns vP vN).length:=by rw [mC_len WFS1.out];exact sizeMsg
 have LF:Z.length=(mC 4 c s r v wh tg ow zeroB ns vP vN).length:=by rw [mC_len WFS1.out];exact hln
 clear HW0
 go_wp2_with (first
  | ((with_reducible refine wl_build 100 ?_ ?_ (bloC zeroB).toArray (build_blo _) ?_);exact rfl;exact rfl)
  | ((with_reducible refine wl_put 100 (.tmp 26) (.tmp 25) ?_ ?_ w.heap.size 239 ?_ ?_ (pre_blob 4 c s r v wh tg ow b ns vP vN) (bloC zeroB) (bloC b) (pos_blob 4 c s r v wh tg ow b ns vP vN) ?_ 102 T0.out (ln_blob 4 c s r v wh tg ow b ns vP vN HW.out) (by rw [bloC_len wfZeroB];exact bloC_len HW.out.blob) (one_blo _) (by rw [bloC_len wfZeroB];exact sizeBlo) ?_);exact rfl;exact rfl;exact rfl;exact rfl;exact rfl;intro W1 r1 b1;rw [sh_blob 4 c s r v wh tg ow b ns vP vN zeroB] at r1;have HW:Hid ((⟨4,c,s,r,v,wh,tg,ow,zeroB,ns⟩:Msg).Wf):=WFS1;have T1:=hid r1;have B1:=hid (b1.below B0.out (Nat.le_refl _));have Q1:=hid (b1.row Q0.out hgg.symm);have S1:=hid (row_seg (off:=0) (A:=[]) (cs:=mC 4 c s r v wh tg ow zeroB ns vP vN) (C:=[]) T1.out (by simp) rfl);clear r1 b1)
  | ((with_reducible refine wl_load 102 (.tmp 1) ?_ w.heap.size 0 ?_ ?_ (mC 4 c s r v wh tg ow zeroB ns vP vN) _ S1.out Tryz.underlying102 ?_ ZF ?_);iterate 4 exact rfl)
  | ((with_reducible refine wl_put 102 (.tmp 2) (.tmp 44) ?_ ?_ g1 0 ?_ ?_ [] (mC 4 c s r v wh tg ow zeroB ns vP vN) Z [] ?_ 102 Q1.out rfl LF (mC_one h1 h2) ZF ?_);exact rfl;exact rfl;exact rfl;exact rfl;exact rfl;intro WF rF bF))
 have rG:WF.heap[g1]? = some (.cells (mC 4 c s r v wh tg ow zeroB ns vP vN).toArray 102):=by simpa using rF
 refine bodyPost_ret_by (results_row (fn:=Tryz.f74) (p:=2) (ty:=102) (by kernel_rfl) _ _ g1 102 (mC 4 c s r v wh tg ow zeroB ns vP vN).toArray (0,0) _ rfl rG Tryz.underlying102 rfl (by rw [List.size_toArray];exact ZF)) rfl ?_
 exact ⟨rfl,bF.below B1.out hge⟩
theorem bare_6 {w:World} {c:Int} {s:Sub} {r:Rep} {v:List UInt8} {wh:Int} {tg ow:List UInt8} {b:Blo} {ns:List Int} {vP vN:Value} (hw:(⟨6,c,s,r,v,wh,tg,ow,b,ns⟩:Msg).Wf) (h1:vP.oneCell' = true) (h2:vN.oneCell' = true) :
  Calls Tryz.prog 74 #[.agg (mC 6 c s r v wh tg ow b ns vP vN).toArray] w fun e w'=>e = .returned (.agg (mC 6 c s r v wh tg ow zeroB ns vP vN).toArray)∧Below w.heap.size w w':=by
 have B0:=hid (below_two (below_a1 w (.cells (mC 6 c s r v wh tg ow b ns vP vN).toArray 102)) (below_a1 _ (.cells (msgC (zeroM 0 0) (.slice none 0 0) (.slice none 0 0)).toArray 102)))
 have T0:=hid (row_kept (top_obj w (.cells (mC 6 c s r v wh tg ow b ns vP vN).toArray 102)) (below_a1 _ (.cells (msgC (zeroM 0 0) (.slice none 0 0) (.slice none 0 0)).toArray 102)))
 have Q0:=hid (top_obj (w.alloc (.cells (mC 6 c s r v wh tg ow b ns vP vN).toArray 102)) (.cells (msgC (zeroM 0 0) (.slice none 0 0) (.slice none 0 0)).toArray 102))
 have ck:=mrow_kind T0.out hw
 have ZM:=zeroMsg
 have HW:=hid hw
 have hs:(w.alloc (.cells (mC 6 c s r v wh tg ow b ns vP vN).toArray 102)).heap.size=w.heap.size + 1:=Array.size_push _
 rw [hs] at Q0
 have hln:(msgC (zeroM 0 0) (.slice none 0 0) (.slice none 0 0)).length=275:=msgC_len (zeroM_wf 0 0) _ _
 obtain ⟨Z,hZ⟩:∃ Z,Z=msgC (zeroM 0 0) (.slice none 0 0) (.slice none 0 0):=⟨_,rfl⟩
 rw [← hZ] at B0 T0 Q0 ck ZM hln
 clear hZ hw
 obtain ⟨L,hL⟩:∃ L,L=mC 6 c s r v wh tg ow b ns vP vN:=⟨_,rfl⟩
 rw [← hL] at B0 T0 Q0 ck hs ⊢
 have HL:=hid hL
 clear hL
 go_enter Tryz.func74,Tryz.ntmps74
 go_upto_region 1 with (first | ((with_reducible refine wl_alloc 102 ?_ ?_ Z.toArray ZM ?_);exact rfl;exact rfl))
 generalize (w.alloc (.cells L.toArray 102)).alloc (.cells Z.toArray 102)=W0 at *
 clear hs
 have Q0:Hid (W0.heap[w.heap.size + 1]? = some (.cells ([]++(Z++[])).toArray 102)):=row_nilB Q0.out
 generalize hg1:w.heap.size + 1=g1 at *
 have hgg:w.heap.size ≠ g1:=by omega
 have hge:w.heap.size ≤ g1:=by omega
 rw [HL.out,mo_blob] at T0
 have HW0:=HW
 have WFS1:Hid ((⟨6,c,s,r,v,wh,tg,ow,zeroB,ns⟩:Msg).Wf):=(fun h=>⟨h.sub,h.rep,h.tag,h.own,wfZeroB⟩:(⟨6,c,s,r,v,wh,tg,ow,b,ns⟩:Msg).Wf→_) HW.out
 have ZF:(Tryz.prog.info? 102).map (·.size)=some (mC 6 c s r v wh tg ow zeroB ns vP vN).length:=by rw [mC_len WFS1.out];exact sizeMsg
 have LF:Z.length=(mC 6 c s r v wh tg ow zeroB ns vP vN).length:=by rw [mC_len WFS1.out];exact hln
 clear HW0
 go_wp2_with (first
  | ((with_reducible refine wl_build 100 ?_ ?_ (bloC zeroB).toArray (build_blo _) ?_);exact rfl;exact rfl)
  | ((with_reducible refine wl_put 100 (.tmp 26) (.tmp 25) ?_ ?_ w.heap.size 239 ?_ ?_ (pre_blob 6 c s r v wh tg ow b ns vP vN) (bloC zeroB) (bloC b) (pos_blob 6 c s r v wh tg ow b ns vP vN) ?_ 102 T0.out (ln_blob 6 c s r v wh tg ow b ns vP vN HW.out) (by rw [bloC_len wfZeroB];exact bloC_len HW.out.blob) (one_blo _) (by rw [bloC_len wfZeroB];exact sizeBlo) ?_);exact rfl;exact rfl;exact rfl;exact rfl;exact rfl;intro W1 r1 b1;rw [sh_blob 6 c s r v wh tg ow b ns vP vN zeroB] at r1;have HW:Hid ((⟨6,c,s,r,v,wh,tg,ow,zeroB,ns⟩:Msg).Wf):=WFS1;have T1:=hid r1;have B1:=hid (b1.below B0.out (Nat.le_refl _));have Q1:=hid (b1.row Q0.out hgg.symm);have S1:=hid (row_seg (off:=0) (A:=[]) (cs:=mC 6 c s r v wh tg ow zeroB ns vP vN) (C:=[]) T1.out (by simp) rfl);clear r1 b1)
  | ((with_reducible refine wl_load 102 (.tmp 1) ?_ w.heap.size 0 ?_ ?_ (mC 6 c s r v wh tg ow zeroB ns vP vN) _ S1.out Tryz.underlying102 ?_ ZF ?_);iterate 4 exact rfl)
  | ((with_reducible refine wl_put 102 (.tmp 2) (.tmp 44) ?_ ?_ g1 0 ?_ ?_ [] (mC 6 c s r v wh tg ow zeroB ns vP vN) Z [] ?_ 102 Q1.out rfl LF (mC_one h1 h2) ZF ?_);exact rfl;exact rfl;exact rfl;exact rfl;exact rfl;intro WF rF bF))
 have rG:WF.heap[g1]? = some (.cells (mC 6 c s r v wh tg ow zeroB ns vP vN).toArray 102):=by simpa using rF
 refine bodyPost_ret_by (results_row (fn:=Tryz.f74) (p:=2) (ty:=102) (by kernel_rfl) _ _ g1 102 (mC 6 c s r v wh tg ow zeroB ns vP vN).toArray (0,0) _ rfl rG Tryz.underlying102 rfl (by rw [List.size_toArray];exact ZF)) rfl ?_
 exact ⟨rfl,bF.below B1.out hge⟩
theorem bare_5 {w:World} {c:Int} {s:Sub} {r:Rep} {v:List UInt8} {wh:Int} {tg ow:List UInt8} {b:Blo} {ns:List Int} {vP vN:Value} (hw:(⟨5,c,s,r,v,wh,tg,ow,b,ns⟩:Msg).Wf) (h1:vP.oneCell' = true) (_h2:vN.oneCell' = true) :
  Calls Tryz.prog 74 #[.agg (mC 5 c s r v wh tg ow b ns vP vN).toArray] w fun e w'=>e = .returned (.agg (mC 5 c s r v wh tg ow b [] vP (.slice none 0 0)).toArray)∧Below w.heap.size w w':=by
 have B0:=hid (below_two (below_a1 w (.cells (mC 5 c s r v wh tg ow b ns vP vN).toArray 102)) (below_a1 _ (.cells (msgC (zeroM 0 0) (.slice none 0 0) (.slice none 0 0)).toArray 102)))
 have T0:=hid (row_kept (top_obj w (.cells (mC 5 c s r v wh tg ow b ns vP vN).toArray 102)) (below_a1 _ (.cells (msgC (zeroM 0 0) (.slice none 0 0) (.slice none 0 0)).toArray 102)))
 have Q0:=hid (top_obj (w.alloc (.cells (mC 5 c s r v wh tg ow b ns vP vN).toArray 102)) (.cells (msgC (zeroM 0 0) (.slice none 0 0) (.slice none 0 0)).toArray 102))
 have ck:=mrow_kind T0.out hw
 have ZM:=zeroMsg
 have HW:=hid hw
 have hs:(w.alloc (.cells (mC 5 c s r v wh tg ow b ns vP vN).toArray 102)).heap.size=w.heap.size + 1:=Array.size_push _
 rw [hs] at Q0
 have hln:(msgC (zeroM 0 0) (.slice none 0 0) (.slice none 0 0)).length=275:=msgC_len (zeroM_wf 0 0) _ _
 obtain ⟨Z,hZ⟩:∃ Z,Z=msgC (zeroM 0 0) (.slice none 0 0) (.slice none 0 0):=⟨_,rfl⟩
 rw [← hZ] at B0 T0 Q0 ck ZM hln
 clear hZ hw
 obtain ⟨L,hL⟩:∃ L,L=mC 5 c s r v wh tg ow b ns vP vN:=⟨_,rfl⟩
 rw [← hL] at B0 T0 Q0 ck hs ⊢
 have HL:=hid hL
 clear hL
 go_enter Tryz.func74,Tryz.ntmps74
 go_upto_region 1 with (first | ((with_reducible refine wl_alloc 102 ?_ ?_ Z.toArray ZM ?_);exact rfl;exact rfl))
 generalize (w.alloc (.cells L.toArray 102)).alloc (.cells Z.toArray 102)=W0 at *
 clear hs
 have Q0:Hid (W0.heap[w.heap.size + 1]? = some (.cells ([]++(Z++[])).toArray 102)):=row_nilB Q0.out
 generalize hg1:w.heap.size + 1=g1 at *
 have hgg:w.heap.size ≠ g1:=by omega
 have hge:w.heap.size ≤ g1:=by omega
 rw [HL.out,mo_nums] at T0
 have HW0:=HW
 have WFS1:Hid ((⟨5,c,s,r,v,wh,tg,ow,b,[]⟩:Msg).Wf):=(fun h=>⟨h.sub,h.rep,h.tag,h.own,h.blob⟩:(⟨5,c,s,r,v,wh,tg,ow,b,ns⟩:Msg).Wf→_) HW.out
 have ZF:(Tryz.prog.info? 102).map (·.size)=some (mC 5 c s r v wh tg ow b [] vP (.slice none 0 0)).length:=by rw [mC_len WFS1.out];exact sizeMsg
 have LF:Z.length=(mC 5 c s r v wh tg ow b [] vP (.slice none 0 0)).length:=by rw [mC_len WFS1.out];exact hln
 clear HW0
 go_wp2_with (first
  | ((with_reducible refine wl_put1 81 (.tmp 31) (.const (.slice none 0 0)) ?_ ?_ w.heap.size 274 ?_ ?_ (pre_nums 5 c s r v wh tg ow b ns vP vN) (pos_nums 5 c s r v wh tg ow b ns vP vN) (vN) (.slice none 0 0) ?_ 102 T0.out (ln_nums 5 c s r v wh tg ow b ns vP vN HW.out) ?_ ?_ ?_);exact rfl;exact rfl;exact rfl;exact rfl;exact rfl;exact rfl;kernel_rfl;intro W1 r1 b1;rw [sh_nums 5 c s r v wh tg ow b ns vP vN (.slice none 0 0) []] at r1;have HW:Hid ((⟨5,c,s,r,v,wh,tg,ow,b,[]⟩:Msg).Wf):=WFS1;have T1:=hid r1;have B1:=hid (b1.below B0.out (Nat.le_refl _));have Q1:=hid (b1.row Q0.out hgg.symm);have S1:=hid (row_seg (off:=0) (A:=[]) (cs:=mC 5 c s r v wh tg ow b [] vP (.slice none 0 0)) (C:=[]) T1.out (by simp) rfl);clear r1 b1)
  | ((with_reducible refine wl_load 102 (.tmp 1) ?_ w.heap.size 0 ?_ ?_ (mC 5 c s r v wh tg ow b [] vP (.slice none 0 0)) _ S1.out Tryz.underlying102 ?_ ZF ?_);iterate 4 exact rfl)
  | ((with_reducible refine wl_put 102 (.tmp 2) (.tmp 44) ?_ ?_ g1 0 ?_ ?_ [] (mC 5 c s r v wh tg ow b [] vP (.slice none 0 0)) Z [] ?_ 102 Q1.out rfl LF (mC_one h1 rfl) ZF ?_);exact rfl;exact rfl;exact rfl;exact rfl;exact rfl;intro WF rF bF))
 have rG:WF.heap[g1]? = some (.cells (mC 5 c s r v wh tg ow b [] vP (.slice none 0 0)).toArray 102):=by simpa using rF
 refine bodyPost_ret_by (results_row (fn:=Tryz.f74) (p:=2) (ty:=102) (by kernel_rfl) _ _ g1 102 (mC 5 c s r v wh tg ow b [] vP (.slice none 0 0)).toArray (0,0) _ rfl rG Tryz.underlying102 rfl (by rw [List.size_toArray];exact ZF)) rfl ?_
 exact ⟨rfl,bF.below B1.out hge⟩
theorem bare_7 {w:World} {c:Int} {s:Sub} {r:Rep} {v:List UInt8} {wh:Int} {tg ow:List UInt8} {b:Blo} {ns:List Int} {vP vN:Value} (hw:(⟨7,c,s,r,v,wh,tg,ow,b,ns⟩:Msg).Wf) (h1:vP.oneCell' = true) (_h2:vN.oneCell' = true) :
  Calls Tryz.prog 74 #[.agg (mC 7 c s r v wh tg ow b ns vP vN).toArray] w fun e w'=>e = .returned (.agg (mC 7 c s r v wh tg ow b [] vP (.slice none 0 0)).toArray)∧Below w.heap.size w w':=by
 have B0:=hid (below_two (below_a1 w (.cells (mC 7 c s r v wh tg ow b ns vP vN).toArray 102)) (below_a1 _ (.cells (msgC (zeroM 0 0) (.slice none 0 0) (.slice none 0 0)).toArray 102)))
 have T0:=hid (row_kept (top_obj w (.cells (mC 7 c s r v wh tg ow b ns vP vN).toArray 102)) (below_a1 _ (.cells (msgC (zeroM 0 0) (.slice none 0 0) (.slice none 0 0)).toArray 102)))
 have Q0:=hid (top_obj (w.alloc (.cells (mC 7 c s r v wh tg ow b ns vP vN).toArray 102)) (.cells (msgC (zeroM 0 0) (.slice none 0 0) (.slice none 0 0)).toArray 102))
 have ck:=mrow_kind T0.out hw
 have ZM:=zeroMsg
 have HW:=hid hw
 have hs:(w.alloc (.cells (mC 7 c s r v wh tg ow b ns vP vN).toArray 102)).heap.size=w.heap.size + 1:=Array.size_push _
 rw [hs] at Q0
 have hln:(msgC (zeroM 0 0) (.slice none 0 0) (.slice none 0 0)).length=275:=msgC_len (zeroM_wf 0 0) _ _
 obtain ⟨Z,hZ⟩:∃ Z,Z=msgC (zeroM 0 0) (.slice none 0 0) (.slice none 0 0):=⟨_,rfl⟩
 rw [← hZ] at B0 T0 Q0 ck ZM hln
 clear hZ hw
 obtain ⟨L,hL⟩:∃ L,L=mC 7 c s r v wh tg ow b ns vP vN:=⟨_,rfl⟩
 rw [← hL] at B0 T0 Q0 ck hs ⊢
 have HL:=hid hL
 clear hL
 go_enter Tryz.func74,Tryz.ntmps74
 go_upto_region 1 with (first | ((with_reducible refine wl_alloc 102 ?_ ?_ Z.toArray ZM ?_);exact rfl;exact rfl))
 generalize (w.alloc (.cells L.toArray 102)).alloc (.cells Z.toArray 102)=W0 at *
 clear hs
 have Q0:Hid (W0.heap[w.heap.size + 1]? = some (.cells ([]++(Z++[])).toArray 102)):=row_nilB Q0.out
 generalize hg1:w.heap.size + 1=g1 at *
 have hgg:w.heap.size ≠ g1:=by omega
 have hge:w.heap.size ≤ g1:=by omega
 rw [HL.out,mo_nums] at T0
 have HW0:=HW
 have WFS1:Hid ((⟨7,c,s,r,v,wh,tg,ow,b,[]⟩:Msg).Wf):=(fun h=>⟨h.sub,h.rep,h.tag,h.own,h.blob⟩:(⟨7,c,s,r,v,wh,tg,ow,b,ns⟩:Msg).Wf→_) HW.out
 have ZF:(Tryz.prog.info? 102).map (·.size)=some (mC 7 c s r v wh tg ow b [] vP (.slice none 0 0)).length:=by rw [mC_len WFS1.out];exact sizeMsg
 have LF:Z.length=(mC 7 c s r v wh tg ow b [] vP (.slice none 0 0)).length:=by rw [mC_len WFS1.out];exact hln
 clear HW0
 go_wp2_with (first
  | ((with_reducible refine wl_put1 81 (.tmp 31) (.const (.slice none 0 0)) ?_ ?_ w.heap.size 274 ?_ ?_ (pre_nums 7 c s r v wh tg ow b ns vP vN) (pos_nums 7 c s r v wh tg ow b ns vP vN) (vN) (.slice none 0 0) ?_ 102 T0.out (ln_nums 7 c s r v wh tg ow b ns vP vN HW.out) ?_ ?_ ?_);exact rfl;exact rfl;exact rfl;exact rfl;exact rfl;exact rfl;kernel_rfl;intro W1 r1 b1;rw [sh_nums 7 c s r v wh tg ow b ns vP vN (.slice none 0 0) []] at r1;have HW:Hid ((⟨7,c,s,r,v,wh,tg,ow,b,[]⟩:Msg).Wf):=WFS1;have T1:=hid r1;have B1:=hid (b1.below B0.out (Nat.le_refl _));have Q1:=hid (b1.row Q0.out hgg.symm);have S1:=hid (row_seg (off:=0) (A:=[]) (cs:=mC 7 c s r v wh tg ow b [] vP (.slice none 0 0)) (C:=[]) T1.out (by simp) rfl);clear r1 b1)
  | ((with_reducible refine wl_load 102 (.tmp 1) ?_ w.heap.size 0 ?_ ?_ (mC 7 c s r v wh tg ow b [] vP (.slice none 0 0)) _ S1.out Tryz.underlying102 ?_ ZF ?_);iterate 4 exact rfl)
  | ((with_reducible refine wl_put 102 (.tmp 2) (.tmp 44) ?_ ?_ g1 0 ?_ ?_ [] (mC 7 c s r v wh tg ow b [] vP (.slice none 0 0)) Z [] ?_ 102 Q1.out rfl LF (mC_one h1 rfl) ZF ?_);exact rfl;exact rfl;exact rfl;exact rfl;exact rfl;intro WF rF bF))
 have rG:WF.heap[g1]? = some (.cells (mC 7 c s r v wh tg ow b [] vP (.slice none 0 0)).toArray 102):=by simpa using rF
 refine bodyPost_ret_by (results_row (fn:=Tryz.f74) (p:=2) (ty:=102) (by kernel_rfl) _ _ g1 102 (mC 7 c s r v wh tg ow b [] vP (.slice none 0 0)).toArray (0,0) _ rfl rG Tryz.underlying102 rfl (by rw [List.size_toArray];exact ZF)) rfl ?_
 exact ⟨rfl,bF.below B1.out hge⟩
theorem bare_8 {w:World} {c:Int} {s:Sub} {r:Rep} {v:List UInt8} {wh:Int} {tg ow:List UInt8} {b:Blo} {ns:List Int} {vP vN:Value} (hw:(⟨8,c,s,r,v,wh,tg,ow,b,ns⟩:Msg).Wf) (h1:vP.oneCell' = true) (_h2:vN.oneCell' = true) :
  Calls Tryz.prog 74 #[.agg (mC 8 c s r v wh tg ow b ns vP vN).toArray] w fun e w'=>e = .returned (.agg (mC 8 c s r v wh tg ow b [] vP (.slice none 0 0)).toArray)∧Below w.heap.size w w':=by
 have B0:=hid (below_two (below_a1 w (.cells (mC 8 c s r v wh tg ow b ns vP vN).toArray 102)) (below_a1 _ (.cells (msgC (zeroM 0 0) (.slice none 0 0) (.slice none 0 0)).toArray 102)))
 have T0:=hid (row_kept (top_obj w (.cells (mC 8 c s r v wh tg ow b ns vP vN).toArray 102)) (below_a1 _ (.cells (msgC (zeroM 0 0) (.slice none 0 0) (.slice none 0 0)).toArray 102)))
 have Q0:=hid (top_obj (w.alloc (.cells (mC 8 c s r v wh tg ow b ns vP vN).toArray 102)) (.cells (msgC (zeroM 0 0) (.slice none 0 0) (.slice none 0 0)).toArray 102))
 have ck:=mrow_kind T0.out hw
 have ZM:=zeroMsg
 have HW:=hid hw
 have hs:(w.alloc (.cells (mC 8 c s r v wh tg ow b ns vP vN).toArray 102)).heap.size=w.heap.size + 1:=Array.size_push _
 rw [hs] at Q0
 have hln:(msgC (zeroM 0 0) (.slice none 0 0) (.slice none 0 0)).length=275:=msgC_len (zeroM_wf 0 0) _ _
 obtain ⟨Z,hZ⟩:∃ Z,Z=msgC (zeroM 0 0) (.slice none 0 0) (.slice none 0 0):=⟨_,rfl⟩
 rw [← hZ] at B0 T0 Q0 ck ZM hln
 clear hZ hw
 obtain ⟨L,hL⟩:∃ L,L=mC 8 c s r v wh tg ow b ns vP vN:=⟨_,rfl⟩
 rw [← hL] at B0 T0 Q0 ck hs ⊢
 have HL:=hid hL
 clear hL
 go_enter Tryz.func74,Tryz.ntmps74
 go_upto_region 1 with (first | ((with_reducible refine wl_alloc 102 ?_ ?_ Z.toArray ZM ?_);exact rfl;exact rfl))
 generalize (w.alloc (.cells L.toArray 102)).alloc (.cells Z.toArray 102)=W0 at *
 clear hs
 have Q0:Hid (W0.heap[w.heap.size + 1]? = some (.cells ([]++(Z++[])).toArray 102)):=row_nilB Q0.out
 generalize hg1:w.heap.size + 1=g1 at *
 have hgg:w.heap.size ≠ g1:=by omega
 have hge:w.heap.size ≤ g1:=by omega
 rw [HL.out,mo_nums] at T0
 have HW0:=HW
 have WFS1:Hid ((⟨8,c,s,r,v,wh,tg,ow,b,[]⟩:Msg).Wf):=(fun h=>⟨h.sub,h.rep,h.tag,h.own,h.blob⟩:(⟨8,c,s,r,v,wh,tg,ow,b,ns⟩:Msg).Wf→_) HW.out
 have ZF:(Tryz.prog.info? 102).map (·.size)=some (mC 8 c s r v wh tg ow b [] vP (.slice none 0 0)).length:=by rw [mC_len WFS1.out];exact sizeMsg
 have LF:Z.length=(mC 8 c s r v wh tg ow b [] vP (.slice none 0 0)).length:=by rw [mC_len WFS1.out];exact hln
 clear HW0
 go_wp2_with (first
  | ((with_reducible refine wl_put1 81 (.tmp 31) (.const (.slice none 0 0)) ?_ ?_ w.heap.size 274 ?_ ?_ (pre_nums 8 c s r v wh tg ow b ns vP vN) (pos_nums 8 c s r v wh tg ow b ns vP vN) (vN) (.slice none 0 0) ?_ 102 T0.out (ln_nums 8 c s r v wh tg ow b ns vP vN HW.out) ?_ ?_ ?_);exact rfl;exact rfl;exact rfl;exact rfl;exact rfl;exact rfl;kernel_rfl;intro W1 r1 b1;rw [sh_nums 8 c s r v wh tg ow b ns vP vN (.slice none 0 0) []] at r1;have HW:Hid ((⟨8,c,s,r,v,wh,tg,ow,b,[]⟩:Msg).Wf):=WFS1;have T1:=hid r1;have B1:=hid (b1.below B0.out (Nat.le_refl _));have Q1:=hid (b1.row Q0.out hgg.symm);have S1:=hid (row_seg (off:=0) (A:=[]) (cs:=mC 8 c s r v wh tg ow b [] vP (.slice none 0 0)) (C:=[]) T1.out (by simp) rfl);clear r1 b1)
  | ((with_reducible refine wl_load 102 (.tmp 1) ?_ w.heap.size 0 ?_ ?_ (mC 8 c s r v wh tg ow b [] vP (.slice none 0 0)) _ S1.out Tryz.underlying102 ?_ ZF ?_);iterate 4 exact rfl)
  | ((with_reducible refine wl_put 102 (.tmp 2) (.tmp 44) ?_ ?_ g1 0 ?_ ?_ [] (mC 8 c s r v wh tg ow b [] vP (.slice none 0 0)) Z [] ?_ 102 Q1.out rfl LF (mC_one h1 rfl) ZF ?_);exact rfl;exact rfl;exact rfl;exact rfl;exact rfl;intro WF rF bF))
 have rG:WF.heap[g1]? = some (.cells (mC 8 c s r v wh tg ow b [] vP (.slice none 0 0)).toArray 102):=by simpa using rF
 refine bodyPost_ret_by (results_row (fn:=Tryz.f74) (p:=2) (ty:=102) (by kernel_rfl) _ _ g1 102 (mC 8 c s r v wh tg ow b [] vP (.slice none 0 0)).toArray (0,0) _ rfl rG Tryz.underlying102 rfl (by rw [List.size_toArray];exact ZF)) rfl ?_
 exact ⟨rfl,bF.below B1.out hge⟩
theorem bare_10 {w:World} {c:Int} {s:Sub} {r:Rep} {v:List UInt8} {wh:Int} {tg ow:List UInt8} {b:Blo} {ns:List Int} {vP vN:Value} (hw:(⟨10,c,s,r,v,wh,tg,ow,b,ns⟩:Msg).Wf) (h1:vP.oneCell' = true) (h2:vN.oneCell' = true) :
  Calls Tryz.prog 74 #[.agg (mC 10 c s r v wh tg ow b ns vP vN).toArray] w fun e w'=>e = .returned (.agg (mC 10 c s r [] 0 zeroD zeroD b ns vP vN).toArray)∧Below w.heap.size w w':=by
 have B0:=hid (below_two (below_a1 w (.cells (mC 10 c s r v wh tg ow b ns vP vN).toArray 102)) (below_a1 _ (.cells (msgC (zeroM 0 0) (.slice none 0 0) (.slice none 0 0)).toArray 102)))
 have T0:=hid (row_kept (top_obj w (.cells (mC 10 c s r v wh tg ow b ns vP vN).toArray 102)) (below_a1 _ (.cells (msgC (zeroM 0 0) (.slice none 0 0) (.slice none 0 0)).toArray 102)))
 have Q0:=hid (top_obj (w.alloc (.cells (mC 10 c s r v wh tg ow b ns vP vN).toArray 102)) (.cells (msgC (zeroM 0 0) (.slice none 0 0) (.slice none 0 0)).toArray 102))
 have ck:=mrow_kind T0.out hw
 have ZM:=zeroMsg
 have HW:=hid hw
 have hs:(w.alloc (.cells (mC 10 c s r v wh tg ow b ns vP vN).toArray 102)).heap.size=w.heap.size + 1:=Array.size_push _
 rw [hs] at Q0
 have hln:(msgC (zeroM 0 0) (.slice none 0 0) (.slice none 0 0)).length=275:=msgC_len (zeroM_wf 0 0) _ _
 obtain ⟨Z,hZ⟩:∃ Z,Z=msgC (zeroM 0 0) (.slice none 0 0) (.slice none 0 0):=⟨_,rfl⟩
 rw [← hZ] at B0 T0 Q0 ck ZM hln
 clear hZ hw
 obtain ⟨L,hL⟩:∃ L,L=mC 10 c s r v wh tg ow b ns vP vN:=⟨_,rfl⟩
 rw [← hL] at B0 T0 Q0 ck hs ⊢
 have HL:=hid hL
 clear hL
 go_enter Tryz.func74,Tryz.ntmps74
 go_upto_region 1 with (first | ((with_reducible refine wl_alloc 102 ?_ ?_ Z.toArray ZM ?_);exact rfl;exact rfl))
 generalize (w.alloc (.cells L.toArray 102)).alloc (.cells Z.toArray 102)=W0 at *
 clear hs
 have Q0:Hid (W0.heap[w.heap.size + 1]? = some (.cells ([]++(Z++[])).toArray 102)):=row_nilB Q0.out
 generalize hg1:w.heap.size + 1=g1 at *
 have hgg:w.heap.size ≠ g1:=by omega
 have hge:w.heap.size ≤ g1:=by omega
 rw [HL.out,mo_who] at T0
 have HW0:=HW
 have WFS1:Hid ((⟨10,c,s,r,v,0,tg,ow,b,ns⟩:Msg).Wf):=(fun h=>⟨h.sub,h.rep,h.tag,h.own,h.blob⟩:(⟨10,c,s,r,v,wh,tg,ow,b,ns⟩:Msg).Wf→_) HW.out
 have WFS2:Hid ((⟨10,c,s,r,[],0,tg,ow,b,ns⟩:Msg).Wf):=(fun h=>⟨h.sub,h.rep,h.tag,h.own,h.blob⟩:(⟨10,c,s,r,v,0,tg,ow,b,ns⟩:Msg).Wf→_) WFS1.out
 have WFS3:Hid ((⟨10,c,s,r,[],0,zeroD,ow,b,ns⟩:Msg).Wf):=(fun h=>⟨h.sub,h.rep,rfl,h.own,h.blob⟩:(⟨10,c,s,r,[],0,tg,ow,b,ns⟩:Msg).Wf→_) WFS2.out
 have WFS4:Hid ((⟨10,c,s,r,[],0,zeroD,zeroD,b,ns⟩:Msg).Wf):=(fun h=>⟨h.sub,h.rep,h.tag,rfl,h.blob⟩:(⟨10,c,s,r,[],0,zeroD,ow,b,ns⟩:Msg).Wf→_) WFS3.out
 have ZF:(Tryz.prog.info? 102).map (·.size)=some (mC 10 c s r [] 0 zeroD zeroD b ns vP vN).length:=by rw [mC_len WFS4.out];exact sizeMsg
 have LF:Z.length=(mC 10 c s r [] 0 zeroD zeroD b ns vP vN).length:=by rw [mC_len WFS4.out];exact hln
 clear HW0
 go_wp2_with (first
  | ((with_reducible refine wl_put1 3 (.tmp 34) (.const (nu 0)) ?_ ?_ w.heap.size 174 ?_ ?_ (pre_who 10 c s r v wh tg ow b ns vP vN) (pos_who 10 c s r v wh tg ow b ns vP vN) (nu wh) (nu 0) ?_ 102 T0.out (ln_who 10 c s r v wh tg ow b ns vP vN HW.out) ?_ ?_ ?_);exact rfl;exact rfl;exact rfl;exact rfl;exact rfl;exact rfl;kernel_rfl;intro W1 r1 b1;rw [sh_who 10 c s r v wh tg ow b ns vP vN 0] at r1;have HW:Hid ((⟨10,c,s,r,v,0,tg,ow,b,ns⟩:Msg).Wf):=WFS1;rw [mo_view] at r1;have T1:=hid r1;have B1:=hid (b1.below B0.out (Nat.le_refl _));have Q1:=hid (b1.row Q0.out hgg.symm);clear r1 b1)
  | ((with_reducible refine wl_put1 9 (.tmp 35) (.const (st [])) ?_ ?_ w.heap.size 173 ?_ ?_ (pre_view 10 c s r v 0 tg ow b ns vP vN) (pos_view 10 c s r v 0 tg ow b ns vP vN) (st v) (st []) ?_ 102 T1.out (ln_view 10 c s r v 0 tg ow b ns vP vN HW.out) ?_ ?_ ?_);exact rfl;exact rfl;exact rfl;exact rfl;exact rfl;exact rfl;kernel_rfl;intro W2 r2 b2;rw [sh_view 10 c s r v 0 tg ow b ns vP vN []] at r2;have HW:Hid ((⟨10,c,s,r,[],0,tg,ow,b,ns⟩:Msg).Wf):=WFS2;rw [mo_tag] at r2;have T2:=hid r2;have B2:=hid (b2.below B1.out (Nat.le_refl _));have Q2:=hid (b2.row Q1.out hgg.symm);clear r2 b2)
  | ((with_reducible refine wl_build 23 ?_ ?_ (dg zeroD).toArray (build_dig _) ?_);exact rfl;exact rfl)
  | ((with_reducible refine wl_put 23 (.tmp 37) (.tmp 36) ?_ ?_ w.heap.size 175 ?_ ?_ (pre_tag 10 c s r [] 0 tg ow b ns vP vN) (dg zeroD) (dg tg) (pos_tag 10 c s r [] 0 tg ow b ns vP vN) ?_ 102 T2.out (ln_tag 10 c s r [] 0 tg ow b ns vP vN HW.out) (by rw [dg_len,dg_len,zeroD_len];exact HW.out.tag) (one_dg _) (by rw [dg_len,zeroD_len];exact sizeDig) ?_);exact rfl;exact rfl;exact rfl;exact rfl;exact rfl;intro W3 r3 b3;rw [sh_tag 10 c s r [] 0 tg ow b ns vP vN zeroD] at r3;have HW:Hid ((⟨10,c,s,r,[],0,zeroD,ow,b,ns⟩:Msg).Wf):=WFS3;rw [mo_own] at r3;have T3:=hid r3;have B3:=hid (b3.below B2.out (Nat.le_refl _));have Q3:=hid (b3.row Q2.out hgg.symm);clear r3 b3)
  | ((with_reducible refine wl_build 23 ?_ ?_ (dg zeroD).toArray (build_dig _) ?_);exact rfl;exact rfl)
  | ((with_reducible refine wl_put 23 (.tmp 39) (.tmp 38) ?_ ?_ w.heap.size 207 ?_ ?_ (pre_own 10 c s r [] 0 zeroD ow b ns vP vN) (dg zeroD) (dg ow) (pos_own 10 c s r [] 0 zeroD ow b ns vP vN) ?_ 102 T3.out (ln_own 10 c s r [] 0 zeroD ow b ns vP vN HW.out) (by rw [dg_len,dg_len,zeroD_len];exact HW.out.own) (one_dg _) (by rw [dg_len,zeroD_len];exact sizeDig) ?_);exact rfl;exact rfl;exact rfl;exact rfl;exact rfl;intro W4 r4 b4;rw [sh_own 10 c s r [] 0 zeroD ow b ns vP vN zeroD] at r4;have HW:Hid ((⟨10,c,s,r,[],0,zeroD,zeroD,b,ns⟩:Msg).Wf):=WFS4;have T4:=hid r4;have B4:=hid (b4.below B3.out (Nat.le_refl _));have Q4:=hid (b4.row Q3.out hgg.symm);have S4:=hid (row_seg (off:=0) (A:=[]) (cs:=mC 10 c s r [] 0 zeroD zeroD b ns vP vN) (C:=[]) T4.out (by simp) rfl);clear r4 b4)
  | ((with_reducible refine wl_load 102 (.tmp 1) ?_ w.heap.size 0 ?_ ?_ (mC 10 c s r [] 0 zeroD zeroD b ns vP vN) _ S4.out Tryz.underlying102 ?_ ZF ?_);iterate 4 exact rfl)
  | ((with_reducible refine wl_put 102 (.tmp 2) (.tmp 44) ?_ ?_ g1 0 ?_ ?_ [] (mC 10 c s r [] 0 zeroD zeroD b ns vP vN) Z [] ?_ 102 Q4.out rfl LF (mC_one h1 h2) ZF ?_);exact rfl;exact rfl;exact rfl;exact rfl;exact rfl;intro WF rF bF))
 have rG:WF.heap[g1]? = some (.cells (mC 10 c s r [] 0 zeroD zeroD b ns vP vN).toArray 102):=by simpa using rF
 refine bodyPost_ret_by (results_row (fn:=Tryz.f74) (p:=2) (ty:=102) (by kernel_rfl) _ _ g1 102 (mC 10 c s r [] 0 zeroD zeroD b ns vP vN).toArray (0,0) _ rfl rG Tryz.underlying102 rfl (by rw [List.size_toArray];exact ZF)) rfl ?_
 exact ⟨rfl,bF.below B4.out hge⟩
theorem bare_11 {w:World} {c:Int} {s:Sub} {r:Rep} {v:List UInt8} {wh:Int} {tg ow:List UInt8} {b:Blo} {ns:List Int} {vP vN:Value} (hw:(⟨11,c,s,r,v,wh,tg,ow,b,ns⟩:Msg).Wf) (h1:vP.oneCell' = true) (h2:vN.oneCell' = true) :
  Calls Tryz.prog 74 #[.agg (mC 11 c s r v wh tg ow b ns vP vN).toArray] w fun e w'=>e = .returned (.agg (mC 11 c s r v wh tg zeroD b ns vP vN).toArray)∧Below w.heap.size w w':=by
 have B0:=hid (below_two (below_a1 w (.cells (mC 11 c s r v wh tg ow b ns vP vN).toArray 102)) (below_a1 _ (.cells (msgC (zeroM 0 0) (.slice none 0 0) (.slice none 0 0)).toArray 102)))
 have T0:=hid (row_kept (top_obj w (.cells (mC 11 c s r v wh tg ow b ns vP vN).toArray 102)) (below_a1 _ (.cells (msgC (zeroM 0 0) (.slice none 0 0) (.slice none 0 0)).toArray 102)))
 have Q0:=hid (top_obj (w.alloc (.cells (mC 11 c s r v wh tg ow b ns vP vN).toArray 102)) (.cells (msgC (zeroM 0 0) (.slice none 0 0) (.slice none 0 0)).toArray 102))
 have ck:=mrow_kind T0.out hw
 have ZM:=zeroMsg
 have HW:=hid hw
 have hs:(w.alloc (.cells (mC 11 c s r v wh tg ow b ns vP vN).toArray 102)).heap.size=w.heap.size + 1:=Array.size_push _
 rw [hs] at Q0
 have hln:(msgC (zeroM 0 0) (.slice none 0 0) (.slice none 0 0)).length=275:=msgC_len (zeroM_wf 0 0) _ _
 obtain ⟨Z,hZ⟩:∃ Z,Z=msgC (zeroM 0 0) (.slice none 0 0) (.slice none 0 0):=⟨_,rfl⟩
 rw [← hZ] at B0 T0 Q0 ck ZM hln
 clear hZ hw
 obtain ⟨L,hL⟩:∃ L,L=mC 11 c s r v wh tg ow b ns vP vN:=⟨_,rfl⟩
 rw [← hL] at B0 T0 Q0 ck hs ⊢
 have HL:=hid hL
 clear hL
 go_enter Tryz.func74,Tryz.ntmps74
 go_upto_region 1 with (first | ((with_reducible refine wl_alloc 102 ?_ ?_ Z.toArray ZM ?_);exact rfl;exact rfl))
 generalize (w.alloc (.cells L.toArray 102)).alloc (.cells Z.toArray 102)=W0 at *
 clear hs
 have Q0:Hid (W0.heap[w.heap.size + 1]? = some (.cells ([]++(Z++[])).toArray 102)):=row_nilB Q0.out
 generalize hg1:w.heap.size + 1=g1 at *
 have hgg:w.heap.size ≠ g1:=by omega
 have hge:w.heap.size ≤ g1:=by omega
 rw [HL.out,mo_own] at T0
 have HW0:=HW
 have WFS1:Hid ((⟨11,c,s,r,v,wh,tg,zeroD,b,ns⟩:Msg).Wf):=(fun h=>⟨h.sub,h.rep,h.tag,rfl,h.blob⟩:(⟨11,c,s,r,v,wh,tg,ow,b,ns⟩:Msg).Wf→_) HW.out
 have ZF:(Tryz.prog.info? 102).map (·.size)=some (mC 11 c s r v wh tg zeroD b ns vP vN).length:=by rw [mC_len WFS1.out];exact sizeMsg
 have LF:Z.length=(mC 11 c s r v wh tg zeroD b ns vP vN).length:=by rw [mC_len WFS1.out];exact hln
 clear HW0
 go_wp2_with (first
  | ((with_reducible refine wl_build 23 ?_ ?_ (dg zeroD).toArray (build_dig _) ?_);exact rfl;exact rfl)
  | ((with_reducible refine wl_put 23 (.tmp 43) (.tmp 42) ?_ ?_ w.heap.size 207 ?_ ?_ (pre_own 11 c s r v wh tg ow b ns vP vN) (dg zeroD) (dg ow) (pos_own 11 c s r v wh tg ow b ns vP vN) ?_ 102 T0.out (ln_own 11 c s r v wh tg ow b ns vP vN HW.out) (by rw [dg_len,dg_len,zeroD_len];exact HW.out.own) (one_dg _) (by rw [dg_len,zeroD_len];exact sizeDig) ?_);exact rfl;exact rfl;exact rfl;exact rfl;exact rfl;intro W1 r1 b1;rw [sh_own 11 c s r v wh tg ow b ns vP vN zeroD] at r1;have HW:Hid ((⟨11,c,s,r,v,wh,tg,zeroD,b,ns⟩:Msg).Wf):=WFS1;have T1:=hid r1;have B1:=hid (b1.below B0.out (Nat.le_refl _));have Q1:=hid (b1.row Q0.out hgg.symm);have S1:=hid (row_seg (off:=0) (A:=[]) (cs:=mC 11 c s r v wh tg zeroD b ns vP vN) (C:=[]) T1.out (by simp) rfl);clear r1 b1)
  | ((with_reducible refine wl_load 102 (.tmp 1) ?_ w.heap.size 0 ?_ ?_ (mC 11 c s r v wh tg zeroD b ns vP vN) _ S1.out Tryz.underlying102 ?_ ZF ?_);iterate 4 exact rfl)
  | ((with_reducible refine wl_put 102 (.tmp 2) (.tmp 44) ?_ ?_ g1 0 ?_ ?_ [] (mC 11 c s r v wh tg zeroD b ns vP vN) Z [] ?_ 102 Q1.out rfl LF (mC_one h1 h2) ZF ?_);exact rfl;exact rfl;exact rfl;exact rfl;exact rfl;intro WF rF bF))
 have rG:WF.heap[g1]? = some (.cells (mC 11 c s r v wh tg zeroD b ns vP vN).toArray 102):=by simpa using rF
 refine bodyPost_ret_by (results_row (fn:=Tryz.f74) (p:=2) (ty:=102) (by kernel_rfl) _ _ g1 102 (mC 11 c s r v wh tg zeroD b ns vP vN).toArray (0,0) _ rfl rG Tryz.underlying102 rfl (by rw [List.size_toArray];exact ZF)) rfl ?_
 exact ⟨rfl,bF.below B1.out hge⟩
theorem bare_d {w:World} {k:Int} {c:Int} {s:Sub} {r:Rep} {v:List UInt8} {wh:Int} {tg ow:List UInt8} {b:Blo} {ns:List Int} {vP vN:Value} (hw:(⟨k,c,s,r,v,wh,tg,ow,b,ns⟩:Msg).Wf) (h1:vP.oneCell' = true) (h2:vN.oneCell' = true) (hd:∀ j:Int,1 ≤ j→j ≤ 11→j ≠ 9→k ≠ j) (hi:I64 wh) :
  Calls Tryz.prog 74 #[.agg (mC k c s r v wh tg ow b ns vP vN).toArray] w fun e w'=>e = .returned (.agg (mC k c s r v wh tg ow b ns vP vN).toArray)∧Below w.heap.size w w':=by
 have B0:=hid (below_two (below_a1 w (.cells (mC k c s r v wh tg ow b ns vP vN).toArray 102)) (below_a1 _ (.cells (msgC (zeroM 0 0) (.slice none 0 0) (.slice none 0 0)).toArray 102)))
 have T0:=hid (row_kept (top_obj w (.cells (mC k c s r v wh tg ow b ns vP vN).toArray 102)) (below_a1 _ (.cells (msgC (zeroM 0 0) (.slice none 0 0) (.slice none 0 0)).toArray 102)))
 have Q0:=hid (top_obj (w.alloc (.cells (mC k c s r v wh tg ow b ns vP vN).toArray 102)) (.cells (msgC (zeroM 0 0) (.slice none 0 0) (.slice none 0 0)).toArray 102))
 have ck:=mrow_kind T0.out hw
 have cw:=mrow_who T0.out hw
 have ZM:=zeroMsg
 have HW:=hid hw
 have hs:(w.alloc (.cells (mC k c s r v wh tg ow b ns vP vN).toArray 102)).heap.size=w.heap.size + 1:=Array.size_push _
 rw [hs] at Q0
 have hln:(msgC (zeroM 0 0) (.slice none 0 0) (.slice none 0 0)).length=275:=msgC_len (zeroM_wf 0 0) _ _
 obtain ⟨Z,hZ⟩:∃ Z,Z=msgC (zeroM 0 0) (.slice none 0 0) (.slice none 0 0):=⟨_,rfl⟩
 rw [← hZ] at B0 T0 Q0 ck cw ZM hln
 clear hZ hw
 obtain ⟨L,hL⟩:∃ L,L=mC k c s r v wh tg ow b ns vP vN:=⟨_,rfl⟩
 rw [← hL] at B0 T0 Q0 ck hs cw ⊢
 have HL:=hid hL
 clear hL
 have d1:(k == 1)=false:=beq_false_of_ne (hd 1 (by decide) (by decide) (by decide))
 have d2:(k == 2)=false:=beq_false_of_ne (hd 2 (by decide) (by decide) (by decide))
 have d3:(k == 3)=false:=beq_false_of_ne (hd 3 (by decide) (by decide) (by decide))
 have d4:(k == 4)=false:=beq_false_of_ne (hd 4 (by decide) (by decide) (by decide))
 have d6:(k == 6)=false:=beq_false_of_ne (hd 6 (by decide) (by decide) (by decide))
 have d5:(k == 5)=false:=beq_false_of_ne (hd 5 (by decide) (by decide) (by decide))
 have d7:(k == 7)=false:=beq_false_of_ne (hd 7 (by decide) (by decide) (by decide))
 have d8:(k == 8)=false:=beq_false_of_ne (hd 8 (by decide) (by decide) (by decide))
 have d10:(k == 10)=false:=beq_false_of_ne (hd 10 (by decide) (by decide) (by decide))
 have d11:(k == 11)=false:=beq_false_of_ne (hd 11 (by decide) (by decide) (by decide))
 clear hd
 go_enter Tryz.func74,Tryz.ntmps74
 go_upto_region 1 with (first | ((with_reducible refine wl_alloc 102 ?_ ?_ Z.toArray ZM ?_);exact rfl;exact rfl))
 generalize (w.alloc (.cells L.toArray 102)).alloc (.cells Z.toArray 102)=W0 at *
 clear hs
 have Q0:Hid (W0.heap[w.heap.size + 1]? = some (.cells ([]++(Z++[])).toArray 102)):=row_nilB Q0.out
 generalize hg1:w.heap.size + 1=g1 at *
 have hgg:w.heap.size ≠ g1:=by omega
 have hge:w.heap.size ≤ g1:=by omega
 rw [HL.out,mo_who] at T0
 have HW0:=HW
 have WFS1:Hid ((⟨k,c,s,r,v,wh,tg,ow,b,ns⟩:Msg).Wf):=(fun h=>⟨h.sub,h.rep,h.tag,h.own,h.blob⟩:(⟨k,c,s,r,v,wh,tg,ow,b,ns⟩:Msg).Wf→_) HW.out
 have ZF:(Tryz.prog.info? 102).map (·.size)=some (mC k c s r v wh tg ow b ns vP vN).length:=by rw [mC_len WFS1.out];exact sizeMsg
 have LF:Z.length=(mC k c s r v wh tg ow b ns vP vN).length:=by rw [mC_len WFS1.out];exact hln
 clear HW0
 have hwr:wrap64 wh=wh:=IntWalk.wrap64_in wh hi
 go_wp2_with (first
  | ((with_reducible refine wl_put1 3 (.tmp 8) (.tmp 7) ?_ ?_ w.heap.size 174 ?_ ?_ (pre_who k c s r v wh tg ow b ns vP vN) (pos_who k c s r v wh tg ow b ns vP vN) (nu wh) (nu wh) ?_ 102 T0.out (ln_who k c s r v wh tg ow b ns vP vN HW.out) ?_ ?_ ?_);exact rfl;exact rfl;exact rfl;exact rfl;exact rfl;exact rfl;kernel_rfl;intro W1 r1 b1;rw [sh_who k c s r v wh tg ow b ns vP vN wh] at r1;have HW:Hid ((⟨k,c,s,r,v,wh,tg,ow,b,ns⟩:Msg).Wf):=WFS1;have T1:=hid r1;have B1:=hid (b1.below B0.out (Nat.le_refl _));have Q1:=hid (b1.row Q0.out hgg.symm);have S1:=hid (row_seg (off:=0) (A:=[]) (cs:=mC k c s r v wh tg ow b ns vP vN) (C:=[]) T1.out (by simp) rfl);clear r1 b1)
  | ((with_reducible refine wl_put1 3 (.tmp 8) (.tmp 7) ?_ ?_ w.heap.size 174 ?_ ?_ (pre_who k c s r v wh tg ow b ns vP vN) (pos_who k c s r v wh tg ow b ns vP vN) (nu wh) (nu (wrap64 wh)) ?_ 102 T0.out (ln_who k c s r v wh tg ow b ns vP vN HW.out) ?_ ?_ ?_);exact rfl;exact rfl;exact rfl;exact rfl;exact rfl;exact rfl;kernel_rfl;intro W1 r1 b1;rw [hwr] at r1;rw [sh_who k c s r v wh tg ow b ns vP vN wh] at r1;have HW:Hid ((⟨k,c,s,r,v,wh,tg,ow,b,ns⟩:Msg).Wf):=WFS1;have T1:=hid r1;have B1:=hid (b1.below B0.out (Nat.le_refl _));have Q1:=hid (b1.row Q0.out hgg.symm);have S1:=hid (row_seg (off:=0) (A:=[]) (cs:=mC k c s r v wh tg ow b ns vP vN) (C:=[]) T1.out (by simp) rfl);clear r1 b1)
  | ((with_reducible refine wl_load 102 (.tmp 1) ?_ w.heap.size 0 ?_ ?_ (mC k c s r v wh tg ow b ns vP vN) _ S1.out Tryz.underlying102 ?_ ZF ?_);iterate 4 exact rfl)
  | ((with_reducible refine wl_put 102 (.tmp 2) (.tmp 44) ?_ ?_ g1 0 ?_ ?_ [] (mC k c s r v wh tg ow b ns vP vN) Z [] ?_ 102 Q1.out rfl LF (mC_one h1 h2) ZF ?_);exact rfl;exact rfl;exact rfl;exact rfl;exact rfl;intro WF rF bF))
 have rG:WF.heap[g1]? = some (.cells (mC k c s r v wh tg ow b ns vP vN).toArray 102):=by simpa using rF
 refine bodyPost_ret_by (results_row (fn:=Tryz.f74) (p:=2) (ty:=102) (by kernel_rfl) _ _ g1 102 (mC k c s r v wh tg ow b ns vP vN).toArray (0,0) _ rfl rG Tryz.underlying102 rfl (by rw [List.size_toArray];exact ZF)) rfl ?_
 exact ⟨by rw [HL.out],bF.below B1.out hge⟩
theorem rbare_any {w:World} {m:Msg} {vP vN:Value} (hw:m.Wf) (hi:I64 m.who) (h1:vP.oneCell' = true) (h2:vN.oneCell' = true):Calls Tryz.prog 74 #[.agg (msgC m vP vN).toArray] w fun e w'=>e = .returned (.agg (msgC (bareM m) (bareP m vP) (bareN m vN)).toArray)∧Below w.heap.size w w':=by
 obtain ⟨k,c,s,r,v,wh,tg,ow,b,ns⟩:=m
 unfold bareM bareP bareN
 simp only
 by_cases e1:k=1
 ·subst e1
  exact bare_1 hw h1 h2
 by_cases e2:k=2
 ·subst e2
  exact bare_2 hw h1 h2
 by_cases e3:k=3
 ·subst e3
  exact bare_3 hw h1 h2
 by_cases e4:k=4
 ·subst e4
  exact bare_4 hw h1 h2
 by_cases e6:k=6
 ·subst e6
  exact bare_6 hw h1 h2
 by_cases e5:k=5
 ·subst e5
  exact bare_5 hw h1 h2
 by_cases e7:k=7
 ·subst e7
  exact bare_7 hw h1 h2
 by_cases e8:k=8
 ·subst e8
  exact bare_8 hw h1 h2
 by_cases e10:k=10
 ·subst e10
  exact bare_10 hw h1 h2
 by_cases e11:k=11
 ·subst e11
  exact bare_11 hw h1 h2
 rw [if_neg e1,if_neg e2,if_neg e3,if_neg (by omega),if_neg (by omega),if_neg e10,if_neg e11,if_neg e2,if_neg (by omega)]
 exact bare_d hw h1 h2 (fun j h3 h4 h5 e=>by omega) hi
end Go.Proofs.YthkkjjlpahdagaaGreatDoor.Ms
